/-
  A function's name, by the reference: plain facts, and contracts of its word, Ops, sign.
-/
import Derived.Test.YticehalcnbjccaaGreatDoorRTreeV
import Derived.Test.YticehalcnbjccaaGreatDoorRPrintQ
import Derived.Test.YticehalcnbjccaaGreatDoorRNumD
import Derived.Test.YticehalcnbjccaaGreatDoorRAddrD
namespace Go.Proofs.YticehalcnbjccaaGreatDoor.TreeC
set_option maxRecDepth 100000
set_option maxHeartbeats 8000000
set_option linter.unusedVariables false
open Go.RowKit NumC LexC
open Tryz
open Lib (hid)
def capB (c : UInt8) : Bool := decide (65 ≤ c.toNat ∧ c.toNat ≤ 90)
def capd (c : UInt8) : Bool := capB c || digB c
def wordL : List UInt8 → Bool
 | [] => false
 | c :: l => capB c && l.all capd
theorem wordL_cons (c : UInt8) (l : List UInt8) : wordL (c :: l) = (capB c && l.all capd) := rfl
theorem str_dl (l : List UInt8) : (str l).data.toList = l := by simp [str]
theorem up_word (c : UInt8) (h : wordB c = true) : capd (upC c) = true := by
 unfold wordB at h
 unfold capd capB
 by_cases hd : digB c = true
 · have h1 := digB_iff.1 hd
   rw [upC_no (by omega), hd]; simp
 · have hl : letB c = true := by simpa [hd] using h
   have h2 := letB_iff.1 hl
   by_cases h3 : 97 ≤ c.toNat ∧ c.toNat ≤ 122
   · rw [upC_up h3]
     have h4 := sub32 h3.1
     simp only [h4]
     have : decide (65 ≤ c.toNat - 32 ∧ c.toNat - 32 ≤ 90) = true := decide_eq_true (by omega)
     rw [this]; rfl
   · rw [upC_no h3]
     have : decide (65 ≤ c.toNat ∧ c.toNat ≤ 90) = true := decide_eq_true (by omega)
     rw [this]; rfl
theorem up_cap (c : UInt8) (h : letB c = true) : capB (upC c) = true := by
 have h2 := letB_iff.1 h
 unfold capB
 by_cases h3 : 97 ≤ c.toNat ∧ c.toNat ≤ 122
 · rw [upC_up h3, sub32 h3.1]; exact decide_eq_true (by omega)
 · rw [upC_no h3]; exact decide_eq_true (by omega)
theorem all_while {p : UInt8 → Bool} : ∀ l : List UInt8, ∀ c ∈ l.takeWhile p, p c = true := by
 intro l
 induction l with
 | nil => intro c h; simp at h
 | cons d l ih =>
   intro c h
   rw [List.takeWhile_cons] at h
   split at h
   · rename_i hd
     rcases List.mem_cons.1 h with h | h
     · rw [h]; exact hd
     · exact ih c h
   · simp at h
theorem next_word {l : List UInt8} {n : Int} {s : List UInt8} {m : Nat} (h : nextL l = some (3, n, s, m)) : wordL s = true := by
 cases l with
 | nil => cases h
 | cons c l =>
   rw [nextL_cons] at h
   unfold tokL at h
   by_cases h1 : digB c = true
   · rw [if_pos h1] at h
     split at h
     · injection h with h; injection h with h2 h3; cases h2
     · cases h
   · rw [if_neg h1] at h
     by_cases h2 : letB c = true
     · rw [if_pos h2] at h
       injection h with h; injection h with _ h; injection h with _ h; injection h with h _
       subst h
       have hw : wordB c = true := by unfold wordB; rw [h2]; rfl
       rw [List.takeWhile_cons, if_pos hw]
       unfold upL
       rw [List.map_cons]
       rw [wordL_cons, up_cap c h2, Bool.true_and, List.all_eq_true]
       intro d hd
       obtain ⟨e, he, rfl⟩ := List.mem_map.1 hd
       exact up_word e (all_while l e he)
     · rw [if_neg h2] at h
       by_cases h3 : c = 34
       · rw [if_pos h3] at h
         cases ht : txtL l with
         | none => rw [ht] at h; cases h
         | some r => rw [ht] at h; simp at h
       · rw [if_neg h3] at h
         unfold signT at h
         split at h <;> (repeat (split at h)) <;> simp at h
theorem cut_words : ∀ (f : Nat) (l : List UInt8) (i : Nat) (acc : List Tok), (∀ t ∈ acc, t.k = 3 → wordL t.s.data.toList = true) → ∀ t ∈ (cutF f l i acc).toks, t.k = 3 → wordL t.s.data.toList = true := by
 intro f
 induction f with
 | zero => intro l i acc h; simpa [cutF] using h
 | succ f ih =>
   intro l i acc h
   cases l with
   | nil => simpa [cutF] using h
   | cons c l =>
     rw [cutF]
     by_cases hc : c = 32
     · rw [if_pos hc]; exact ih l (i + 1) acc h
     · rw [if_neg hc]
       cases hn : nextL (c :: l) with
       | none => intro t ht; simp at ht
       | some q =>
         obtain ⟨k, n, s, m⟩ := q
         refine ih _ _ _ fun t ht hk => ?_
         rcases List.mem_append.1 ht with ht | ht
         · exact h t ht hk
         · obtain rfl := List.mem_singleton.1 ht
           simp only at hk
           subst hk
           show wordL (str s).data.toList = true
           rw [str_dl]
           exact next_word hn
theorem take_allK {p : UInt8 → Bool} : ∀ l : List UInt8, (∀ c ∈ l, p c = true) → l.takeWhile p = l := by
 intro l
 induction l with
 | nil => intro _; rfl
 | cons c l ih => intro h; rw [List.takeWhile_cons, if_pos (h c (by simp)), ih fun d hd => h d (by simp [hd])]
theorem cap_let {c : UInt8} (h : capB c = true) : letB c = true := by
 unfold capB at h
 exact letB_iff.2 (Or.inr (of_decide_eq_true h))
theorem capd_word {c : UInt8} (h : capd c = true) : wordB c = true ∧ upC c = c := by
 unfold capd at h
 by_cases h1 : capB c = true
 · have h2 := of_decide_eq_true (show decide (65 ≤ c.toNat ∧ c.toNat ≤ 90) = true from h1)
   exact ⟨by unfold wordB; rw [cap_let h1]; rfl, upC_no (by omega)⟩
 · have h3 : digB c = true := by simpa [h1] using h
   have h2 := digB_iff.1 h3
   exact ⟨by unfold wordB; rw [h3]; simp, upC_no (by omega)⟩
theorem cut_word (l : List UInt8) (h : wordL l = true) (h8 : l.length ≤ 8) : (cutL l).toks = [⟨3, 0, str l, 0⟩] := by
 cases l with
 | nil => cases h
 | cons c l =>
   unfold wordL at h
   rw [Bool.and_eq_true, List.all_eq_true] at h
   obtain ⟨hc, hl⟩ := h
   have hlet := cap_let hc
   have hcd : capd c = true := by unfold capd; rw [hc]; rfl
   have hdig : ¬ digB c = true := fun e => by
     have h1 := digB_iff.1 e
     have h2 := of_decide_eq_true (show decide (65 ≤ c.toNat ∧ c.toNat ≤ 90) = true from hc)
     omega
   have hall : ∀ d ∈ c :: l, capd d = true := fun d hd => by
     rcases List.mem_cons.1 hd with rfl | hd
     · exact hcd
     · exact hl d hd
   have ht : (c :: l).takeWhile wordB = c :: l := take_allK _ fun d hd => (capd_word (hall d hd)).1
   have hu : upL (c :: l) = c :: l := by
     unfold upL
     conv => rhs; rw [← List.map_id (c :: l)]
     exact List.map_congr_left fun d hd => (capd_word (hall d hd)).2
   have hn : nextL (c :: l) = some (3, 0, c :: l, (c :: l).length) := by
     rw [nextL_cons]
     unfold tokL
     rw [if_neg hdig, if_pos hlet, ht, hu]
   have h32 : c ≠ 32 := fun e => by
     have h2 := of_decide_eq_true (show decide (65 ≤ c.toNat ∧ c.toNat ≤ 90) = true from hc)
     rw [e] at h2
     exact absurd h2 (by decide)
   unfold cutL
   rw [if_neg (by omega), cutF, if_neg h32, hn]
   simp only [List.drop_length, List.nil_append]
   cases hf : (c :: l).length with
   | zero => simp at hf
   | succ n => simp [cutF]
theorem fn_word (s : ByteArray) : fnB s = (decide (s.size ≤ 8) && wordL s.data.toList) := by
 unfold fnB
 by_cases h8 : s.size ≤ 8
 · rw [decide_eq_true h8, Bool.true_and, Bool.true_and]
   have hl : s.data.toList.length ≤ 8 := by rw [show s.data.toList.length = s.size from Array.length_toList]; exact h8
   cases hw : wordL s.data.toList with
   | true =>
     rw [cut_word _ hw hl]
     simp only [decide_true, Bool.true_and, decide_eq_true_eq]
     exact ByteArray.ext (Array.toList_inj.1 (str_dl _))
   | false =>
     split
     · rename_i t ht
       by_cases hk : t.k = 3
       · have h1 := cut_words (s.data.toList.length + 1) s.data.toList 0 [] (fun t ht => by simp at ht)
         have h2 : (cutL s.data.toList) = cutF (s.data.toList.length + 1) s.data.toList 0 [] := by unfold cutL; rw [if_neg (by omega)]
         rw [← h2, ht] at h1
         have h3 := h1 t (by simp) hk
         have : decide (t.s = s) = false := decide_eq_false (fun e => by rw [e, hw] at h3; cases h3)
         rw [this, Bool.and_false]
       · rw [decide_eq_false hk]; rfl
     · rfl
 · rw [decide_eq_false h8]; rfl
theorem wordL_at {l : List UInt8} (h0 : 0 < l.length) : wordL l = (capB l[0] && l.all capd) := by
 cases l with
 | nil => simp at h0
 | cons c l =>
   rw [wordL_cons]
   show _ = (capB c && (c :: l).all capd)
   rw [List.all_cons]
   cases hc : capB c with
   | false => rfl
   | true => simp [capd, hc]
theorem rword (s : ByteArray) (w : World) (hs : s.size ≤ 1000000) : Calls prog 108 #[.string s] w fun e w' => e = .returned (.bool (decide (s.size ≤ 8) && wordL s.data.toList)) ∧ w = w' := by
 have hsl : s.data.toList.length = s.size := Array.length_toList
 by_cases h0 : s.size < 1
 · have E : Hid ((decide (s.size ≤ 8) && wordL s.data.toList) = false) := hid (by
     have : s.data.toList = [] := List.length_eq_zero_iff.1 (by omega)
     rw [this]; simp [wordL])
   have d1 : (s.size : Int) < 1 := by omega
   clear hsl h0
   go_enter func108, ntmps108
   go_wp2
   go_ret
   exact ⟨ret1 E.out.symm, rfl⟩
 · have d1 : ¬ (s.size : Int) < 1 := by omega
   by_cases h8 : 8 < s.size
   · have E : Hid ((decide (s.size ≤ 8) && wordL s.data.toList) = false) := hid (by rw [decide_eq_false (by omega)]; rfl)
     have d2 : (8 : Int) < (s.size : Int) := by omega
     clear hsl h0 h8
     go_enter func108, ntmps108
     go_wp2
     go_ret
     exact ⟨ret1 E.out.symm, rfl⟩
   · have d2 : ¬ (8 : Int) < (s.size : Int) := by omega
     have hp : 0 < s.size := by omega
     have hw := wordL_at (l := s.data.toList) (by omega)
     have h00 : s.data.toList[0]'(by omega) = s[0] := rfl
     rw [h00] at hw
     have hle : decide (s.size ≤ 8) = true := decide_eq_true (by omega)
     have HW := hid hw
     have HLE := hid hle
     have HSL := hid hsl
     clear hw hle hsl h0 h8 h00
     by_cases h65 : s[0].toNat < 65
     · have E : Hid ((decide (s.size ≤ 8) && wordL s.data.toList) = false) := hid (by rw [HW.out, show capB s[0] = false from decide_eq_false (by omega)]; simp)
       have e1 : ((s[0].toNat : Int) < 65) := by omega
       clear h65
       go_enter func108, ntmps108
       go_wp2
       go_ret
       exact ⟨ret1 E.out.symm, rfl⟩
     · have e1 : ¬ ((s[0].toNat : Int) < 65) := by omega
       by_cases h90 : 90 < s[0].toNat
       · have E : Hid ((decide (s.size ≤ 8) && wordL s.data.toList) = false) := hid (by rw [HW.out, show capB s[0] = false from decide_eq_false (by omega)]; simp)
         have e2 : ((90 : Int) < (s[0].toNat : Int)) := by omega
         clear h65 h90
         go_enter func108, ntmps108
         go_wp2
         go_ret
         exact ⟨ret1 E.out.symm, rfl⟩
       · have e2 : ¬ ((90 : Int) < (s[0].toNat : Int)) := by omega
         have HC : Hid (capB s[0] = true) := hid (decide_eq_true (by omega))
         clear h65 h90
         go_enter func108, ntmps108
         go_wp2
         go_loop [3] (fun iv => ∃ k : Nat, k ≤ s.size ∧ iv = .int .i64 k ∧ Hid ((s.data.toList.take k).all capd = true)) (fun iv => s.size - (intOf iv).toNat)
         case atStart => exact ⟨0, Nat.zero_le _, rfl, hid rfl⟩
         case round =>
           obtain ⟨k, hk, rfl, HA⟩ := hrel
           by_cases hlt : k < s.size
           · have d3 : (k : Int) < (s.size : Int) := by omega
             have HT := hid (take_snoc s k hlt)
             have HM : Hid (capd s[k] = false → (decide (s.size ≤ 8) && wordL s.data.toList) = false) := hid (fun h => by
               have h2 : s.data.toList.all capd = false := by
                 rw [List.all_eq_false]
                 exact ⟨s[k], by
                   have : s[k] = s.data.toList[k]'(by rw [HSL.out]; exact hlt) := rfl
                   rw [this]; exact List.getElem_mem _, by rw [h]; exact Bool.false_ne_true⟩
               rw [HW.out, h2]; simp)
             have HS : Hid (capd s[k] = true → (s.data.toList.take (k + 1)).all capd = true) := hid (fun h => by rw [HT.out, List.all_append, HA.out]; simp [h])
             have hb := u8_lt s[k]
             by_cases c1 : 65 ≤ s[k].toNat
             · have t1 : decide ((65 : Int) ≤ (s[k].toNat : Int)) = true := decide_eq_true (by omega)
               by_cases c2 : s[k].toNat ≤ 90
               · have t2 : decide ((s[k].toNat : Int) ≤ 90) = true := decide_eq_true (by omega)
                 have HN := hid (HS.out (by unfold capd; rw [show capB s[k] = true from decide_eq_true ⟨c1, c2⟩]; rfl))
                 go_wp2
                 go_round
                 case rel => exact ⟨k + 1, by omega, by go_num, HN⟩
                 case measure => simp [intOf]; omega
               · have t2 : decide ((s[k].toNat : Int) ≤ 90) = false := decide_eq_false (by omega)
                 have t3 : decide ((48 : Int) ≤ (s[k].toNat : Int)) = true := decide_eq_true (by omega)
                 have t4 : decide ((s[k].toNat : Int) ≤ 57) = false := decide_eq_false (by omega)
                 have HN := hid (HM.out (by unfold capd digB; rw [show capB s[k] = false from decide_eq_false (by omega), decide_eq_false (by omega)]; rfl))
                 go_wp2
                 go_ret
                 exact ⟨ret1 HN.out.symm, rfl⟩
             · have t1 : decide ((65 : Int) ≤ (s[k].toNat : Int)) = false := decide_eq_false (by omega)
               by_cases c3 : 48 ≤ s[k].toNat
               · have t3 : decide ((48 : Int) ≤ (s[k].toNat : Int)) = true := decide_eq_true (by omega)
                 by_cases c4 : s[k].toNat ≤ 57
                 · have t4 : decide ((s[k].toNat : Int) ≤ 57) = true := decide_eq_true (by omega)
                   have HN := hid (HS.out (by unfold capd; rw [show digB s[k] = true from digB_iff.2 ⟨c3, c4⟩]; simp))
                   go_wp2
                   go_round
                   case rel => exact ⟨k + 1, by omega, by go_num, HN⟩
                   case measure => simp [intOf]; omega
                 · have t4 : decide ((s[k].toNat : Int) ≤ 57) = false := decide_eq_false (by omega)
                   have HN := hid (HM.out (by unfold capd digB; rw [show capB s[k] = false from decide_eq_false (by omega), decide_eq_false (by omega)]; rfl))
                   go_wp2
                   go_ret
                   exact ⟨ret1 HN.out.symm, rfl⟩
               · have t3 : decide ((48 : Int) ≤ (s[k].toNat : Int)) = false := decide_eq_false (by omega)
                 have HN := hid (HM.out (by unfold capd digB; rw [show capB s[k] = false from decide_eq_false (by omega), decide_eq_false (by omega)]; rfl))
                 go_wp2
                 go_ret
                 exact ⟨ret1 HN.out.symm, rfl⟩
           · have d3 : ¬ (k : Int) < (s.size : Int) := by omega
             have HN : Hid ((decide (s.size ≤ 8) && wordL s.data.toList) = true) := hid (by
               have h1 := HA.out
               rw [List.take_of_length_le (by rw [HSL.out]; omega)] at h1
               rw [HLE.out, HW.out, HC.out, h1]; rfl)
             go_wp2
             go_ret
             exact ⟨ret1 HN.out.symm, rfl⟩
def opsL : List (List UInt8) := [[61], [60, 62], [60], [60, 61], [62], [62, 61], [43], [45], [38], [42], [47], [37], [94]]
theorem ops_any (s : ByteArray) : binB s = opsL.any (fun o => decide (s = str o)) := by
 unfold binB
 simp only [anyOf, opsL, cmpS, sumS, mulS, powS, List.any_cons, List.any_nil]
 simp [Bool.or_assoc]
theorem ops_len : opsL.length = 13 := rfl
theorem ops_cell (i : Nat) (h : i < 13) : (#[.string { data := #[61] }, .string { data := #[60, 62] }, .string { data := #[60] }, .string { data := #[60, 61] }, .string { data := #[62] }, .string { data := #[62, 61] }, .string { data := #[43] }, .string { data := #[45] }, .string { data := #[38] }, .string { data := #[42] }, .string { data := #[47] }, .string { data := #[37] }, .string { data := #[94] }] : Array Value)[i]? = some (.string (str (opsL[i]'h))) := by
 have h13 : i = 0 ∨ i = 1 ∨ i = 2 ∨ i = 3 ∨ i = 4 ∨ i = 5 ∨ i = 6 ∨ i = 7 ∨ i = 8 ∨ i = 9 ∨ i = 10 ∨ i = 11 ∨ i = 12 := by omega
 rcases h13 with rfl | rfl | rfl | rfl | rfl | rfl | rfl | rfl | rfl | rfl | rfl | rfl | rfl <;> rfl
theorem rops (w : World) : Calls prog 110 #[] w fun e w' => e = .returned (.slice (some ⟨w.heap.size, 0, none⟩) 13 13) ∧ w' = w.alloc (.cells #[.string { data := #[61] }, .string { data := #[60, 62] }, .string { data := #[60] }, .string { data := #[60, 61] }, .string { data := #[62] }, .string { data := #[62, 61] }, .string { data := #[43] }, .string { data := #[45] }, .string { data := #[38] }, .string { data := #[42] }, .string { data := #[47] }, .string { data := #[37] }, .string { data := #[94] }] 9) := by
 go_enter func110, ntmps110
 go_wp2
 go_ret
 exact ⟨rfl, rfl⟩
theorem rsignOp (s : ByteArray) (w : World) : Calls prog 107 #[.string s] w fun e w' => e = .returned (.bool (binB s)) ∧ Below w.heap.size w w' := by
 have HO := hid (ops_any s)
 have hB : Below w.heap.size w (w.alloc (.cells #[.string { data := #[61] }, .string { data := #[60, 62] }, .string { data := #[60] }, .string { data := #[60, 61] }, .string { data := #[62] }, .string { data := #[62, 61] }, .string { data := #[43] }, .string { data := #[45] }, .string { data := #[38] }, .string { data := #[42] }, .string { data := #[47] }, .string { data := #[37] }, .string { data := #[94] }] 9)) := (Below.refl _ _).alloc (Nat.le_refl _) _
 have hc : ∀ i (h : i < 13), (w.alloc (.cells #[.string { data := #[61] }, .string { data := #[60, 62] }, .string { data := #[60] }, .string { data := #[60, 61] }, .string { data := #[62] }, .string { data := #[62, 61] }, .string { data := #[43] }, .string { data := #[45] }, .string { data := #[38] }, .string { data := #[42] }, .string { data := #[47] }, .string { data := #[37] }, .string { data := #[94] }] 9)).cell? ⟨w.heap.size, i, none⟩ = some (.string (str (opsL[i]'h))) := fun i h => by rw [World.cell?_alloc_mark]; exact ops_cell i h
 have HC := hid hc
 have HBB := hid hB
 clear hB hc
 go_enter func107, ntmps107
 go_wp2_with fail
 refine (rops w).mono ?_; rintro e w1 ⟨rfl, rfl⟩
 go_wp2_with fail
 generalize (w.alloc (.cells #[.string { data := #[61] }, .string { data := #[60, 62] }, .string { data := #[60] }, .string { data := #[60, 61] }, .string { data := #[62] }, .string { data := #[62, 61] }, .string { data := #[43] }, .string { data := #[45] }, .string { data := #[38] }, .string { data := #[42] }, .string { data := #[47] }, .string { data := #[37] }, .string { data := #[94] }] 9)) = W1 at *
 go_loop [4] (fun iv => ∃ k : Nat, k ≤ 13 ∧ iv = .int .i64 k ∧ Hid ((opsL.take k).any (fun o => decide (s = str o)) = false)) (fun iv => 13 - (intOf iv).toNat)
 case atStart => exact ⟨0, by omega, rfl, hid rfl⟩
 case round =>
   obtain ⟨k, hk, rfl, HA⟩ := hrel
   by_cases hlt : k < 13
   · have d3 : (k : Int) < 13 := by omega
     have c1 := HC.out k hlt
     have hT : opsL.take (k + 1) = opsL.take k ++ [opsL[k]'hlt] := by rw [List.take_succ_eq_append_getElem (by rw [ops_len]; exact hlt)]; rfl
     have HT := hid hT
     have hM : opsL[k]'hlt ∈ opsL := List.getElem_mem _
     have HM := hid hM
     clear hT hM
     generalize opsL[k]'hlt = o at *
     by_cases hs : s = str o
     · have E : Hid (binB s = true) := hid (by rw [HO.out, List.any_eq_true]; exact ⟨o, HM.out, decide_eq_true hs⟩)
       have q1 : ((str o).toList == s.toList) = true := by rw [hs]; simp
       have q2 : (str o).toList = s.toList := by rw [hs]
       clear hs
       go_wp2_with fail
       go_ret
       exact ⟨ret1 E.out.symm, HBB.out⟩
     · have HN : Hid ((opsL.take (k + 1)).any (fun o => decide (s = str o)) = false) := hid (by rw [HT.out, List.any_append, HA.out]; simp [hs])
       have q2 : ¬ (str o).toList = s.toList := fun e => hs (ByteArray.ext (Array.toList_inj.1 (by rw [Lib.toList_data, Lib.toList_data] at e; exact e.symm)))
       have q1 : ((str o).toList == s.toList) = false := beq_eq_false_iff_ne.2 q2
       clear hs
       go_wp2_with fail
       go_round
       case rel => exact ⟨k + 1, by omega, by go_num, HN⟩
       case measure => simp [intOf]; omega
   · have d3 : ¬ (k : Int) < 13 := by omega
     have E : Hid (binB s = false) := hid (by
       have h1 := HA.out
       rw [List.take_of_length_le (by rw [ops_len]; omega)] at h1
       rw [HO.out, h1])
     go_wp2_with fail
     go_ret
     exact ⟨ret1 E.out.symm, HBB.out⟩
end Go.Proofs.YticehalcnbjccaaGreatDoor.TreeC
namespace Go.Proofs.YticehalcnbjccaaGreatDoor.TreeC
set_option maxRecDepth 100000
set_option maxHeartbeats 8000000
set_option linter.unusedVariables false
open Go.RowKit NumC LexC
open Cd
open Tryz
open Lib (hid)
def Alike (n : Nat) : Prop := ∀ (a b : Nd) (A B : Option Addr) (c d : Nat) (w : World), a.size ≤ n → a.size ≤ 1000000 → b.size ≤ 1000000 → KidsAt w (fun g => g < w.heap.size) a.kids A → KidsAt w (fun g => g < w.heap.size) b.kids B →
   Calls prog 62 #[.agg (jN a.f A a.kids.len c), .agg (jN b.f B b.kids.len d)] w fun e w' => e = .returned (.bool (decide (a = b))) ∧ Below w.heap.size w w'
theorem Fo.drop_eq (x y : Fo) (i : Nat) (hx : i < x.len) (hy : i < y.len) : decide (x.drop i = y.drop i) = (decide (x.nth i = y.nth i) && decide (x.drop (i + 1) = y.drop (i + 1))) := by
 rw [Fo.drop_nth x i hx, Fo.drop_nth y i hy]
 generalize x.nth i = p
 generalize y.nth i = q
 obtain ⟨p1, p2⟩ := p
 obtain ⟨q1, q2⟩ := q
 by_cases h1 : p1 = q1 <;> by_cases h2 : p2 = q2 <;> by_cases h3 : x.drop (i + 1) = y.drop (i + 1) <;> simp [h1, h2, h3]
theorem Fo.len_ne {x y : Fo} (h : x.len ≠ y.len) : decide (x = y) = false := decide_eq_false (fun e => h (by rw [e]))
theorem cequal (n : Nat) (H : Alike n) (x y : Fo) (A B : Option Addr) (c d : Nat) (w : World) (hn : x.size ≤ n) (hx : x.size ≤ 1000000) (hy : y.size ≤ 1000000) (hA : KidsAt w (fun g => g < w.heap.size) x A) (hB : KidsAt w (fun g => g < w.heap.size) y B) :
   Calls prog 93 #[.slice A x.len c, .slice B y.len d, .func (.func 62) #[] #[]] w fun e w' => e = .returned (.bool (decide (x = y))) ∧ Below w.heap.size w w' := by
 have HA := hid hA
 have HB := hid hB
 clear hA hB
 have lx := Fo.len_size x
 have ly := Fo.len_size y
 by_cases hl : x.len = y.len
 · have e1 : ((x.len : Int) != (y.len : Int)) = false := by rw [hl]; simp
   have HLN := hid hl
   clear hl
   go_enter func93, ntmps93
   go_wp2_with fail
   go_loopw [17] (fun iv wr => ∃ (i : Nat), i ≤ x.len ∧ iv = .int .i64 i ∧ Below w.heap.size w wr ∧ Hid (decide (x.drop i = y.drop i) = decide (x = y))) (fun iv _ => x.len - (intOf iv).toNat)
   case atStart => exact ⟨0, Nat.zero_le _, rfl, Below.refl _ _, hid (by cases x <;> cases y <;> rfl)⟩
   case round =>
     obtain ⟨i, hi, rfl, hW, HR⟩ := hrel
     have KA := below_row HA.out hW
     have KB := below_row HB.out hW
     by_cases hlt : i < x.len
     · have d1 : (i : Int) < (x.len : Int) := by omega
       have d2 : (i : Int) < (y.len : Int) := by have := HLN.out; omega
       have hlt2 : i < y.len := by have := HLN.out; omega
       obtain ⟨g, o, rfl, hrow⟩ : ∃ g o, A = some ⟨g, o, none⟩ ∧ RowAt wr (fun g => g < wr.heap.size) x g o := by
         rcases KA with h | h
         · rw [h] at hlt; exact absurd hlt (by simp [Fo.len])
         · exact h
       obtain ⟨g', o', rfl, hrow'⟩ : ∃ g o, B = some ⟨g, o, none⟩ ∧ RowAt wr (fun g => g < wr.heap.size) y g o := by
         rcases KB with h | h
         · rw [h] at hlt2; exact absurd hlt2 (by simp [Fo.len])
         · exact h
       obtain ⟨A2, c2, hk2, hpp, f0, f1, f2, f3, f4, f5, f6, f7, f8, f9⟩ := RowAt.nth x g o i hrow hlt
       have b1 : Below wr.heap.size wr (wr.alloc (.cells (jN (x.nth i).f A2 (x.nth i).kids.len c2) 31)) := (Below.refl _ _).alloc (Nat.le_refl _) _
       have hrow2 := RowAt.keep (Q := fun g => g < wr.heap.size) (Kept.of (x := wr.heap.size) b1) (fun g hg hl => ⟨by omega, hg⟩) y g' o' hrow'
       obtain ⟨B2, d2', hk3, hpq, r0, r1, r2, r3, r4, r5, r6, r7, r8, r9⟩ := RowAt.nth y g' o' i hrow2 hlt2
       have hn1 := Fo.nth_size x i hlt
       have hn2 := Fo.nth_size y i hlt2
       have b2 : Below wr.heap.size wr ((wr.alloc (.cells (jN (x.nth i).f A2 (x.nth i).kids.len c2) 31)).alloc (.cells (jN (y.nth i).f B2 (y.nth i).kids.len d2') 31)) := b1.alloc b1.size _
       have M1 : NLoc ((wr.alloc (.cells (jN (x.nth i).f A2 (x.nth i).kids.len c2) 31)).alloc (.cells (jN (y.nth i).f B2 (y.nth i).kids.len d2') 31)) wr.heap.size (x.nth i).f A2 (x.nth i).kids.len c2 := NLoc.kept ⟨heap_alloc_new _ _⟩ ((Kept.refl (wr.alloc (.cells (jN (x.nth i).f A2 (x.nth i).kids.len c2) 31)).heap.size _).alloc _) (by simp)
       have z1 : (wr.alloc (.cells (jN (x.nth i).f A2 (x.nth i).kids.len c2) 31)).heap.size = wr.heap.size + 1 := heap_one _ _
       have M2 : NLoc ((wr.alloc (.cells (jN (x.nth i).f A2 (x.nth i).kids.len c2) 31)).alloc (.cells (jN (y.nth i).f B2 (y.nth i).kids.len d2') 31)) (wr.heap.size + 1) (y.nth i).f B2 (y.nth i).kids.len d2' := ⟨by rw [← z1]; exact heap_alloc_new _ _⟩
       clear z1
       have k2 := below_row hk2 b2
       have k3 : KidsAt ((wr.alloc (.cells (jN (x.nth i).f A2 (x.nth i).kids.len c2) 31)).alloc (.cells (jN (y.nth i).f B2 (y.nth i).kids.len d2') 31)) (fun g => g < ((wr.alloc (.cells (jN (x.nth i).f A2 (x.nth i).kids.len c2) 31)).alloc (.cells (jN (y.nth i).f B2 (y.nth i).kids.len d2') 31)).heap.size) (y.nth i).kids B2 := hk3.keep (Kept.of (x := (wr.alloc (.cells (jN (x.nth i).f A2 (x.nth i).kids.len c2) 31)).heap.size) ((Below.refl _ _).alloc (Nat.le_refl _) _)) (fun g hg hl => ⟨by omega, by have := b2.size; omega⟩)
       have HI := hid (H (x.nth i) (y.nth i) A2 B2 c2 d2' _ (by omega) (by omega) (by omega) k2 k3)
       have HB2 := hid b2
       have HD : Hid ((decide (x.nth i = y.nth i) && decide (x.drop (i + 1) = y.drop (i + 1))) = decide (x = y)) := hid (by rw [← Fo.drop_eq x y i hlt hlt2]; exact HR.out)
       clear hrow hrow' hrow2 hk2 hk3 k2 k3 KA KB H hn1 hn2 b1 b2 HR hpp hpq
       generalize x.nth i = p at *
       generalize y.nth i = q at *
       obtain ⟨m0, m1, m2, m3, m4, m5, m6, m7, m8, m9, -⟩ := M1.cells
       obtain ⟨n0, n1, n2, n3, n4, n5, n6, n7, n8, n9, -⟩ := M2.cells
       clear M1 M2
       go_wp2_with fail
       refine HI.out.mono ?_; rintro e w2 ⟨rfl, hb2⟩
       have hbb := HB2.out.trans (hb2.mono HB2.out.size)
       cases hs : decide (p = q) with
       | false =>
         have E : Hid (decide (x = y) = false) := hid (by have := HD.out; rw [hs] at this; simpa using this.symm)
         go_wp2_with fail
         go_ret
         exact ⟨by rw [E.out]; rfl, hW.trans (hbb.mono hW.size)⟩
       | true =>
         go_wp2_with fail
         go_roundw
         case rel => exact ⟨i + 1, by omega, by go_num, hW.trans (hbb.mono hW.size), hid (by have := HD.out; rw [hs, Bool.true_and] at this; exact this)⟩
         case measure => simp [intOf]; omega
     · have E : Hid (decide (x = y) = true) := hid (by have := HR.out; rw [Fo.drop_len x i (by omega), Fo.drop_len y i (by have := HLN.out; omega)] at this; rw [← this]; exact decide_eq_true rfl)
       have d1 : ¬ (i : Int) < (x.len : Int) := by omega
       clear H KA KB
       go_wp2_with fail
       go_ret
       exact ⟨by rw [E.out]; rfl, hW⟩
 · have e1 : ((x.len : Int) != (y.len : Int)) = true := by simp; omega
   have E := hid (Fo.len_ne hl)
   clear H
   go_enter func93, ntmps93
   go_wp2_with fail
   go_ret
   exact ⟨by rw [E.out]; rfl, Below.refl _ _⟩
def sameF (f h : Fld) : Bool := decide (f.k = h.k) && (ValueC.sameB ⟨f.vk, f.vn, f.vs⟩ ⟨h.vk, h.vn, h.vs⟩ && (decide (f.r1 = h.r1 ∧ f.r2 = h.r2 ∧ f.r3 = h.r3 ∧ f.r4 = h.r4) && (f.op.toList == h.op.toList)))
theorem list_eq {a b : ByteArray} (h : a.toList = b.toList) : a = b := by
 rw [Lib.toList_data, Lib.toList_data] at h
 obtain ⟨⟨a⟩⟩ := a
 obtain ⟨⟨b⟩⟩ := b
 have : a = b := h
 rw [this]
theorem same_nd (f h : Fld) (x y : Fo) : (sameF f h && decide (x = y)) = decide (Nd.mk f x = Nd.mk h y) := by
 obtain ⟨k, vk, vn, vs, r1, r2, r3, r4, op⟩ := f
 obtain ⟨k', vk', vn', vs', r1', r2', r3', r4', op'⟩ := h
 have e : (op.toList == op'.toList) = decide (op = op') := by
   by_cases h : op = op'
   · subst h; simp
   · rw [decide_eq_false h]; exact beq_eq_false_iff_ne.2 (fun e => h (list_eq e))
 simp only [sameF, ValueC.sameB, e]
 rw [Bool.eq_iff_iff]
 simp only [Bool.and_eq_true, decide_eq_true_eq, Nd.mk.injEq, Fld.mk.injEq, ValueC.Val.mk.injEq]
 constructor
 · rintro ⟨⟨h1, ⟨h2, h3, h4⟩, ⟨h5, h6, h7, h8⟩, h9⟩, h10⟩; exact ⟨⟨h1, h2, h3, h4, h5, h6, h7, h8, h9⟩, h10⟩
 · rintro ⟨⟨h1, h2, h3, h4, h5, h6, h7, h8, h9⟩, h10⟩; exact ⟨⟨h1, ⟨h2, h3, h4⟩, ⟨h5, h6, h7, h8⟩, h9⟩, h10⟩
theorem calike1 (n : Nat) (H : Alike n) (f h : Fld) (x y : Fo) (A B : Option Addr) (c d : Nat) (w : World) (hn : x.size ≤ n) (hx : x.size ≤ 1000000) (hy : y.size ≤ 1000000) (hA : KidsAt w (fun g => g < w.heap.size) x A) (hB : KidsAt w (fun g => g < w.heap.size) y B) :
   Calls prog 62 #[.agg (jN f A x.len c), .agg (jN h B y.len d)] w fun e w' => e = .returned (.bool (decide (Nd.mk f x = Nd.mk h y))) ∧ Below w.heap.size w w' := by
 have b1 : Below w.heap.size w (w.alloc (.cells (jN f A x.len c) 31)) := (Below.refl _ _).alloc (Nat.le_refl _) _
 have b2 : Below w.heap.size w ((w.alloc (.cells (jN f A x.len c) 31)).alloc (.cells (jN h B y.len d) 31)) := b1.alloc b1.size _
 have L1 : NLoc ((w.alloc (.cells (jN f A x.len c) 31)).alloc (.cells (jN h B y.len d) 31)) w.heap.size f A x.len c := NLoc.kept ⟨heap_alloc_new _ _⟩ ((Kept.refl (w.alloc (.cells (jN f A x.len c) 31)).heap.size _).alloc _) (by simp)
 have z1 : (w.alloc (.cells (jN f A x.len c) 31)).heap.size = w.heap.size + 1 := heap_one _ _
 have L2 : NLoc ((w.alloc (.cells (jN f A x.len c) 31)).alloc (.cells (jN h B y.len d) 31)) (w.heap.size + 1) h B y.len d := ⟨by rw [← z1]; exact heap_alloc_new _ _⟩
 clear z1
 have HA := hid (below_row hA b2)
 have HB := hid (below_row hB b2)
 have HW := hid b2
 have HD := hid (same_nd f h x y)
 have eR : ∀ W, (binOp .eql 28 (.agg (jR f.r1 f.r2 f.r3 f.r4)) (.agg (jR h.r1 h.r2 h.r3 h.r4))).run prog W = .ok (.bool (decide (f.r1 = h.r1 ∧ f.r2 = h.r2 ∧ f.r3 = h.r3 ∧ f.r4 = h.r4))) W := fun W => eq_rect _ _ _ _ _ _ _ _ W
 clear hA hB b1 b2
 obtain ⟨d0, d1, d2, d3, d4, d5, d6, d7, d8, d9, -⟩ := L1.cells
 obtain ⟨h0, h1, h2, h3, h4, h5, h6, h7, h8, h9, -⟩ := L2.cells
 cases hk : decide (f.k = h.k) with
 | false =>
   have e0 : (f.k == h.k) = false := beq_eq_false_iff_ne.2 (of_decide_eq_false hk)
   have E : Hid (decide (Nd.mk f x = Nd.mk h y) = false) := hid (by rw [← HD.out]; simp [sameF, hk])
   clear H
   go_enter func62, ntmps62
   go_wp2_with fail
   go_ret
   exact ⟨by rw [E.out]; rfl, HW.out⟩
 | true =>
   have e0 : (f.k == h.k) = true := beq_iff_eq.2 (of_decide_eq_true hk)
   have HH := hid H
   clear H
   go_enter func62, ntmps62
   go_wp2_with fail
   generalize ((w.alloc (.cells (jN f A x.len c) 31)).alloc (.cells (jN h B y.len d) 31)) = W1 at *
   refine (ValueC.same ⟨f.vk, f.vn, f.vs⟩ ⟨h.vk, h.vn, h.vs⟩ W1).mono ?_; rintro e w2 ⟨rfl, hb2⟩
   have N1 := L1.kept (Kept.of (x := W1.heap.size) hb2) (Nat.ne_of_lt L1.lt)
   have N2 := L2.kept (Kept.of (x := W1.heap.size) hb2) (Nat.ne_of_lt L2.lt)
   have HA2 := hid (below_row HA.out hb2)
   have HB2 := hid (below_row HB.out hb2)
   have HW2 := hid (HW.out.trans (hb2.mono HW.out.size))
   clear d0 d1 d2 d3 d4 d5 d6 d7 d8 d9 h0 h1 h2 h3 h4 h5 h6 h7 h8 h9 L1 L2 HA HB
   obtain ⟨d0, d1, d2, d3, d4, d5, d6, d7, d8, d9, -⟩ := N1.cells
   obtain ⟨h0, h1, h2, h3, h4, h5, h6, h7, h8, h9, -⟩ := N2.cells
   cases hv : ValueC.sameB ⟨f.vk, f.vn, f.vs⟩ ⟨h.vk, h.vn, h.vs⟩ with
   | false =>
     have E : Hid (decide (Nd.mk f x = Nd.mk h y) = false) := hid (by rw [← HD.out]; simp [sameF, hv])
     go_wp2_with fail
     go_ret
     exact ⟨by rw [E.out]; rfl, HW2.out⟩
   | true =>
     cases hr : decide (f.r1 = h.r1 ∧ f.r2 = h.r2 ∧ f.r3 = h.r3 ∧ f.r4 = h.r4) with
     | false =>
       rw [hr] at eR
       have E : Hid (decide (Nd.mk f x = Nd.mk h y) = false) := hid (by rw [← HD.out]; unfold sameF; rw [hr]; simp)
       go_wp2_with fail
       go_ret
       exact ⟨by rw [E.out]; rfl, HW2.out⟩
     | true =>
       rw [hr] at eR
       cases ho : (f.op.toList == h.op.toList) with
       | false =>
         have E : Hid (decide (Nd.mk f x = Nd.mk h y) = false) := hid (by rw [← HD.out]; unfold sameF; rw [ho]; simp)
         go_wp2_with fail
         go_ret
         exact ⟨by rw [E.out]; rfl, HW2.out⟩
       | true =>
         have E : Hid (decide (Nd.mk f x = Nd.mk h y) = decide (x = y)) := hid (by rw [← HD.out]; unfold sameF; rw [ho, hr, hv, hk]; simp)
         go_wp2_with fail
         refine (cequal n HH.out x y A B c d w2 hn hx hy HA2.out HB2.out).mono ?_; rintro e w3 ⟨rfl, hb3⟩
         go_wp2_with fail
         go_ret
         exact ⟨by rw [E.out]; rfl, HW2.out.trans (hb3.mono HW2.out.size)⟩
theorem alike_all : ∀ n, Alike n := by
 intro n
 induction n with
 | zero => intro a b A B c d w h; exact absurd h (by unfold Nd.size; omega)
 | succ n ih =>
   intro a b A B c d w h1 h2 h3 hA hB
   obtain ⟨f, x⟩ := a
   obtain ⟨h, y⟩ := b
   have e1 : (Nd.mk f x).size = 1 + x.size := rfl
   have e2 : (Nd.mk h y).size = 1 + y.size := rfl
   exact calike1 n ih f h x y A B c d w (by omega) (by omega) (by omega) hA hB
theorem cSame (a b : Nd) (A B : Option Addr) (c d : Nat) (w : World) (ha : a.size ≤ 2000) (hb : b.size ≤ 1000000) (hA : KidsAt w (fun g => g < w.heap.size) a.kids A) (hB : KidsAt w (fun g => g < w.heap.size) b.kids B) :
   Calls prog 39 #[.agg (jN a.f A a.kids.len c), .agg (jN b.f B b.kids.len d)] w fun e w' => e = .returned (.bool (decide (a = b))) ∧ Below w.heap.size w w' := by
 have b1 : Below w.heap.size w (w.alloc (.cells (jN a.f A a.kids.len c) 31)) := (Below.refl _ _).alloc (Nat.le_refl _) _
 have b2 : Below w.heap.size w ((w.alloc (.cells (jN a.f A a.kids.len c) 31)).alloc (.cells (jN b.f B b.kids.len d) 31)) := b1.alloc b1.size _
 have L1 : NLoc ((w.alloc (.cells (jN a.f A a.kids.len c) 31)).alloc (.cells (jN b.f B b.kids.len d) 31)) w.heap.size a.f A a.kids.len c := NLoc.kept ⟨heap_alloc_new _ _⟩ ((Kept.refl (w.alloc (.cells (jN a.f A a.kids.len c) 31)).heap.size _).alloc _) (by simp)
 have z1 : (w.alloc (.cells (jN a.f A a.kids.len c) 31)).heap.size = w.heap.size + 1 := heap_one _ _
 have L2 : NLoc ((w.alloc (.cells (jN a.f A a.kids.len c) 31)).alloc (.cells (jN b.f B b.kids.len d) 31)) (w.heap.size + 1) b.f B b.kids.len d := ⟨by rw [← z1]; exact heap_alloc_new _ _⟩
 clear z1
 have HA := hid (below_row hA b2)
 have HB := hid (below_row hB b2)
 have HW := hid b2
 have e1 : decide (a.size ≤ 2000) = true := decide_eq_true ha
 clear hA hB b1 b2
 obtain ⟨d0, d1, d2, d3, d4, d5, d6, d7, d8, d9, -⟩ := L1.cells
 go_enter func39, ntmps39
 go_wp2_with fail
 generalize ((w.alloc (.cells (jN a.f A a.kids.len c) 31)).alloc (.cells (jN b.f B b.kids.len d) 31)) = W1 at *
 refine (csmall a A c W1 (by omega) HA.out).mono ?_; rintro e w2 ⟨rfl, hb2⟩
 have N1 := L1.kept (Kept.of (x := W1.heap.size) hb2) (Nat.ne_of_lt L1.lt)
 have N2 := L2.kept (Kept.of (x := W1.heap.size) hb2) (Nat.ne_of_lt L2.lt)
 have HA2 := hid (below_row HA.out hb2)
 have HB2 := hid (below_row HB.out hb2)
 have HW2 := hid (HW.out.trans (hb2.mono HW.out.size))
 clear d0 d1 d2 d3 d4 d5 d6 d7 d8 d9 L1 L2 HA HB
 obtain ⟨d0, d1, d2, d3, d4, d5, d6, d7, d8, d9, -⟩ := N1.cells
 obtain ⟨h0, h1, h2, h3, h4, h5, h6, h7, h8, h9, -⟩ := N2.cells
 go_wp2_with fail
 refine (alike_all a.size a b A B c d w2 (Nat.le_refl _) (by omega) hb HA2.out HB2.out).mono ?_; rintro e w3 ⟨rfl, hb3⟩
 go_wp2_with fail
 go_ret
 exact ⟨rfl, HW2.out.trans (hb3.mono HW2.out.size)⟩
end Go.Proofs.YticehalcnbjccaaGreatDoor.TreeC
namespace Go.Proofs.YticehalcnbjccaaGreatDoor.SourceC
set_option maxRecDepth 100000
set_option maxHeartbeats 8000000
set_option linter.unusedVariables false
set_option linter.unusedSimpArgs false
open Go.RowKit NumC TreeC PrintC
open LexC (str nob str_size LexLib)
open ValueC (Val GoodP goodB goodB_t goodB_f nos zeroV showL trueL falseL size_nos)
open Cd
open Tryz
open Lib (hid)
theorem rRead_of (hP : ∀ (t : ByteArray) (W : World), t.size ≤ 1000000 → Calls prog 18 #[.string t] W (ParsePost W (parseL t.data.toList))) (s : ByteArray) (w : World) : Calls prog 8 #[.string s] w (ReadPost w (readL s.data.toList)) := by
 have X1 := SBox.new 37 w
 have B1 : Below w.heap.size w (w.alloc (.cells jSZ 37)) := (Below.refl _ _).alloc (Nat.le_refl _) _
 have hlen : s.data.toList.length = s.size := Array.length_toList
 obtain ⟨f0, f1, f2, f3, f4, f5, f6, f7, f8, f9, f10, f11, f12, f13, z0, z1, z2, z3, z4, z5, z6, z7, z8, z9, z10, z11, z12, z13⟩ := X1.cells
 have HP := hid hP
 clear hP
 by_cases hT : s = { data := #[84, 82, 85, 69] }
 · have E := hid (show readL s.data.toList = valR ⟨1, 1, nos⟩ from by rw [hT]; exact read_true)
   have hz : s.size = 4 := by rw [hT]; rfl
   have y0 := ValueC.not_none (s := s) (by omega)
   obtain ⟨y1, y2⟩ := y0
   have h0 : 0 < s.size := by omega
   have t1 : ¬ (300 : Int) < (s.size : Int) := by omega
   have q3 : ((s[0].toNat : Int) == 61) = false := by
     have : s[0]? = some 84 := by rw [hT]; rfl
     rw [getElem?_pos s 0 h0] at this
     rw [Option.some.inj this]; rfl
   have q0 : (s.toList == ({ data := #[70, 65, 76, 83, 69] } : ByteArray).toList) = false := ValueC.str_ne (by rw [hT]; decide)
   have q1 : s.toList = [84, 82, 85, 69] := by rw [hT]; exact tl1
   clear hz hT
   go_enter func8, ntmps8
   go_wp2_with fail
   refine bodyPost_ret (v := .tuple #[.agg (jSV 1 1 1 { data := #[] } none 0), .int .i64 0, .int .i64 0]) (by simp [results, results8, go_sem, f0, f1, f2, f3, f4, f5, f6, f7, f8, f9, f10, f11, f12, f13]) rfl (ReadPost.val (V := w) E.out (Below.refl _ _) ?_)
   repeat (with_reducible first | exact Kept.refl _ _ | refine Kept.setCell ?_ _ _ | refine Kept.alloc ?_ _ | refine Kept.drew ?_ _ | refine kept_drew1 ?_)
 by_cases hF : s = { data := #[70, 65, 76, 83, 69] }
 · have E := hid (show readL s.data.toList = valR ⟨1, 0, nos⟩ from by rw [hF]; exact read_false)
   have hz : s.size = 5 := by rw [hF]; rfl
   have y0 := ValueC.not_none (s := s) (by omega)
   obtain ⟨y1, y2⟩ := y0
   have h0 : 0 < s.size := by omega
   have t1 : ¬ (300 : Int) < (s.size : Int) := by omega
   have q3 : ((s[0].toNat : Int) == 61) = false := by
     have : s[0]? = some 70 := by rw [hF]; rfl
     rw [getElem?_pos s 0 h0] at this
     rw [Option.some.inj this]; rfl
   have q0 : ¬ s.toList = [84, 82, 85, 69] := fun e => absurd (ValueC.str_ne (s' := { data := #[84, 82, 85, 69] }) hT) (by rw [e, tl1]; decide)
   have q1 : s.toList = [70, 65, 76, 83, 69] := by rw [hF]; exact tl2
   clear hz hT hF
   go_enter func8, ntmps8
   go_wp2_with fail
   refine bodyPost_ret (v := .tuple #[.agg (jSV 1 1 0 { data := #[] } none 0), .int .i64 0, .int .i64 0]) (by simp [results, results8, go_sem, f0, f1, f2, f3, f4, f5, f6, f7, f8, f9, f10, f11, f12, f13]) rfl (ReadPost.val (V := w) E.out (Below.refl _ _) ?_)
   repeat (with_reducible first | exact Kept.refl _ _ | refine Kept.setCell ?_ _ _ | refine Kept.alloc ?_ _ | refine Kept.drew ?_ _ | refine kept_drew1 ?_)
 go_enter func8, ntmps8
 by_cases h1 : 300 < s.size
 · have E := hid (show readL s.data.toList = noneR 0 2 from by unfold readL; rw [if_pos (by omega)])
   have t1 : (300 : Int) < (s.size : Int) := by omega
   go_wp2_with fail
   refine bodyPost_ret (v := .tuple #[.agg jSZ, .int .i64 0, .int .i64 2]) (by simp [results, results8, go_sem, f0, f1, f2, f3, f4, f5, f6, f7, f8, f9, f10, f11, f12, f13]) rfl (ReadPost.nil (V := (w.alloc (.cells jSZ 37))) E.out B1 ?_)
   repeat (with_reducible first | exact Kept.refl _ _ | refine Kept.setCell ?_ _ _ | refine Kept.alloc ?_ _ | refine Kept.drew ?_ _ | refine kept_drew1 ?_)
 have t1 : ¬ (300 : Int) < (s.size : Int) := by omega
 by_cases h2 : s.size = 0
 · obtain ⟨y1, y2⟩ := ValueC.yes_none h2
   have E := hid (show readL s.data.toList = noneR 0 0 from by unfold readL; rw [if_neg (by omega), if_pos (by rw [List.eq_nil_iff_length_eq_zero]; omega)])
   clear h1
   go_wp2_with fail
   refine bodyPost_ret (v := .tuple #[.agg jSZ, .int .i64 0, .int .i64 0]) (by simp [results, results8, go_sem, f0, f1, f2, f3, f4, f5, f6, f7, f8, f9, f10, f11, f12, f13]) rfl (ReadPost.nil (V := (w.alloc (.cells jSZ 37))) E.out B1 ?_)
   repeat (with_reducible first | exact Kept.refl _ _ | refine Kept.setCell ?_ _ _ | refine Kept.alloc ?_ _ | refine Kept.drew ?_ _ | refine kept_drew1 ?_)
 obtain ⟨y1, y2⟩ := ValueC.not_none h2
 have h0 : 0 < s.size := by omega
 clear h1
 have hL := LexC.rest_list s h0
 have q1 : ¬ s.toList = [84, 82, 85, 69] := fun e => absurd (ValueC.str_ne (s' := { data := #[84, 82, 85, 69] }) hT) (by rw [e, tl1]; decide)
 have q2 : ¬ s.toList = [70, 65, 76, 83, 69] := fun e => absurd (ValueC.str_ne (s' := { data := #[70, 65, 76, 83, 69] }) hF) (by rw [e, tl2]; decide)
 have q1' : (s.toList == [84, 82, 85, 69]) = false := beq_eq_false_iff_ne.2 q1
 have q2' : (s.toList == [70, 65, 76, 83, 69]) = false := beq_eq_false_iff_ne.2 q2
 have HT := hid hT
 have HF := hid hF
 have hr : (s.extract 1 s.size).size = s.size - 1 := by rw [ByteArray.size_extract]; omega
 have HR := hid hr
 have HL := hid hL
 have HS := hid hlen
 have lt1 := X1.lt
 clear hT hF hL hr hlen
 by_cases h3 : s[0] = 61
 · have q3 : ((s[0].toNat : Int) == 61) = true := by rw [h3]; rfl
   have H3 := hid h3
   clear h3
   have EF := hid (show readL s.data.toList = (if (parseL (s.extract 1 s.size).data.toList).err = 0 then formR (parseL (s.extract 1 s.size).data.toList).nd else noneR ((parseL (s.extract 1 s.size).data.toList).at_ + 1) (parseL (s.extract 1 s.size).data.toList).err) from by
     have hl : s.data.toList.length = s.size := HS.out
     rw [HL.out, H3.out] at hl ⊢
     unfold readL
     rw [if_neg (by omega), if_neg (List.cons_ne_nil _ _), if_pos (show (61 :: (s.extract 1 s.size).data.toList).head? = some 61 from rfl)]
     rfl)
   clear f0 f1 f2 f3 f4 f5 f6 f7 f8 f9 f10 f11 f12 f13 z0 z1 z2 z3 z4 z5 z6 z7 z8 z9 z10 z11 z12 z13
   go_wp2_with fail
   have HW1 := hid (show (w.alloc (.cells jSZ 37)).heap.size = w.heap.size + 1 by simp)
   have HA := hid (And.intro (parse_at (s.extract 1 s.size).data.toList) (parse_at_le (s.extract 1 s.size).data.toList))
   generalize (w.alloc (.cells jSZ 37)) = W1 at *
   refine (HP.out (s.extract 1 s.size) W1 (by rw [HR.out]; omega)).mono ?_; rintro e w2 ⟨v, rfl, hb2, A, c, rfl, hK⟩
   have X2 := X1.kept (Kept.of (x := W1.heap.size) hb2) (Nat.ne_of_lt lt1)
   have B2 := B1.trans (hb2.mono B1.size)
   have hK2 : KidsAt w2 (fun g => w.heap.size ≤ g ∧ g ≠ w.heap.size) (parseL (s.extract 1 s.size).data.toList).nd.kids A := hK.keep (Kept.refl w.heap.size w2) (fun g hg _ => by have := HW1.out; have hg' : W1.heap.size ≤ g := hg; exact ⟨by omega, by omega, by omega⟩)
   have hle : ((s.extract 1 s.size).data.toList.length : Int) ≤ 300 := by
     have : (s.extract 1 s.size).data.toList.length = (s.extract 1 s.size).size := Array.length_toList
     rw [this, HR.out]; omega
   have lt2 := X2.lt
   have na2 : w.heap.size ≠ w2.heap.size := Nat.ne_of_lt lt2
   have nb2 : w2.heap.size ≠ w.heap.size := Ne.symm na2
   clear X1 B1 hK hb2 lt1
   generalize hrr : parseL (s.extract 1 s.size).data.toList = r at *
   have HLE := hid hle
   clear hle hrr
   obtain ⟨⟨f, kd⟩, pat, per⟩ := r
   simp only at hK2 EF HA ⊢
   obtain ⟨a0, a1⟩ := HA.out
   have a2 : pat ≤ 300 := by have := HLE.out; omega
   have i0 : IntKind.i64.wrap (pat + 1) = pat + 1 := IntWalk.i64_in _ (by omega)
   clear a1 a2 HA
   obtain ⟨f0, f1, f2, f3, f4, f5, f6, f7, f8, f9, f10, f11, f12, f13, z0, z1, z2, z3, z4, z5, z6, z7, z8, z9, z10, z11, z12, z13⟩ := X2.cells
   have HK := hid hK2
   clear hK2 X2
   unfold nodeV
   by_cases hz : per = 0
   · subst hz
     have E := hid (EF.out.trans (if_pos rfl))
     go_wp2_with fail
     refine bodyPost_ret (v := .tuple #[.agg (jS 2 0 0 { data := #[] } f A kd.len c), .int .i64 0, .int .i64 0]) (by simp [results, results8, go_sem, f0, f1, f2, f3, f4, f5, f6, f7, f8, f9, f10, f11, f12, f13, lt2]) rfl (ReadPost.form (V := w2) E.out B2 rfl HK.out ?_)
     repeat (with_reducible first | exact Kept.refl _ _ | refine Kept.setCell ?_ _ _ | refine Kept.alloc ?_ _ | refine Kept.drew ?_ _ | refine kept_drew1 ?_)
   · have q5 : (per != 0) = true := by rw [bne, beq_eq_false_iff_ne.2 hz]; rfl
     have E := hid (EF.out.trans (if_neg hz))
     clear hz
     go_wp2_with fail
     refine bodyPost_ret (v := .tuple #[.agg jSZ, .int .i64 (pat + 1), .int .i64 per]) (by simp [results, results8, go_sem, f0, f1, f2, f3, f4, f5, f6, f7, f8, f9, f10, f11, f12, f13, lt2]) rfl (ReadPost.nil (V := w2) E.out B2 ?_)
     repeat (with_reducible first | exact Kept.refl _ _ | refine Kept.setCell ?_ _ _ | refine Kept.alloc ?_ _ | refine Kept.drew ?_ _ | refine kept_drew1 ?_)
 have q3 : ((s[0].toNat : Int) == 61) = false := beq_eq_false_iff_ne.2 (fun e => h3 (UInt8.toNat_inj.1 (show s[0].toNat = (61 : UInt8).toNat from by have hc : (61 : UInt8).toNat = 61 := rfl; omega)))
 have EV := hid (show readL s.data.toList = if parseB s.data.toList = true then valR ⟨2, parseN s.data.toList, nos⟩ else asText (unq s.data.toList) from by
   have hl : s.data.toList.length = s.size := HS.out
   unfold readL
   rw [if_neg (by omega), if_neg (by rw [HL.out]; exact List.cons_ne_nil _ _), if_neg (by rw [HL.out]; exact fun e => h3 (Option.some.inj e)),
     if_neg (fun e => HT.out (by rw [← str_id s, e]; rfl)), if_neg (fun e => HF.out (by rw [← str_id s, e]; rfl))])
 clear h3 f0 f1 f2 f3 f4 f5 f6 f7 f8 f9 f10 f11 f12 f13 z0 z1 z2 z3 z4 z5 z6 z7 z8 z9 z10 z11 z12 z13
 go_wp2_with fail
 generalize (w.alloc (.cells jSZ 37)) = W1 at *
 refine (rparse s W1).mono ?_; rintro e w2 ⟨rfl, hb2⟩
 have X2 := X1.kept (Kept.of (x := W1.heap.size) hb2) (Nat.ne_of_lt lt1)
 have B2 := B1.trans (hb2.mono B1.size)
 have lt2 := X2.lt
 have na2 : w.heap.size ≠ w2.heap.size := Nat.ne_of_lt lt2
 have nb2 : w2.heap.size ≠ w.heap.size := Ne.symm na2
 clear X1 B1 hb2 lt1
 obtain ⟨f0, f1, f2, f3, f4, f5, f6, f7, f8, f9, f10, f11, f12, f13, z0, z1, z2, z3, z4, z5, z6, z7, z8, z9, z10, z11, z12, z13⟩ := X2.cells
 clear X2
 generalize parseN s.data.toList = n at *
 cases hpb : parseB s.data.toList
 · rw [hpb, if_neg (by decide)] at EV
   clear hpb
   by_cases h4 : s[0] = 39
   · have q4 : ((s[0].toNat : Int) == 39) = true := by rw [h4]; rfl
     have hu : unq s.data.toList = (s.extract 1 s.size).data.toList := by
       rw [HL.out, h4]; rfl
     rw [hu] at EV
     have hl2 : (s.extract 1 s.size).data.toList.length = (s.extract 1 s.size).size := Array.length_toList
     have HL2 := hid hl2
     clear hu h4 hl2
     by_cases h5 : 200 < (s.extract 1 s.size).size
     · have t5 : (200 : Int) < (((s.size - 1 : Nat)) : Int) := by have := HR.out; omega
       have E := hid (show readL s.data.toList = noneR 0 2 from EV.out.trans (by unfold asText; rw [if_pos (by rw [HL2.out]; omega)]))
       go_wp2_with fail
       refine bodyPost_ret (v := .tuple #[.agg jSZ, .int .i64 0, .int .i64 2]) (by simp [results, results8, go_sem, f0, f1, f2, f3, f4, f5, f6, f7, f8, f9, f10, f11, f12, f13, lt2]) rfl (ReadPost.nil (V := w2) E.out B2 ?_)
       repeat (with_reducible first | exact Kept.refl _ _ | refine Kept.setCell ?_ _ _ | refine Kept.alloc ?_ _ | refine Kept.drew ?_ _ | refine kept_drew1 ?_)
     · have t5 : ¬ (200 : Int) < (((s.size - 1 : Nat)) : Int) := by have := HR.out; omega
       have E := hid (show readL s.data.toList = valR ⟨3, 0, s.extract 1 s.size⟩ from EV.out.trans (by unfold asText; rw [if_neg (by rw [HL2.out]; omega), str_id]))
       go_wp2_with fail
       refine bodyPost_ret (v := .tuple #[.agg (jSV 1 3 0 (s.extract 1 s.size) none 0), .int .i64 0, .int .i64 0]) (by simp [results, results8, go_sem, f0, f1, f2, f3, f4, f5, f6, f7, f8, f9, f10, f11, f12, f13, lt2]) rfl (ReadPost.val (V := w2) E.out B2 ?_)
       repeat (with_reducible first | exact Kept.refl _ _ | refine Kept.setCell ?_ _ _ | refine Kept.alloc ?_ _ | refine Kept.drew ?_ _ | refine kept_drew1 ?_)
   · have q4 : ((s[0].toNat : Int) == 39) = false := beq_eq_false_iff_ne.2 (fun e => h4 (UInt8.toNat_inj.1 (show s[0].toNat = (39 : UInt8).toNat from by have hc : (39 : UInt8).toNat = 39 := rfl; omega)))
     have hu : unq s.data.toList = s.data.toList := by
       unfold unq; rw [if_neg (by rw [HL.out]; exact fun e => h4 (Option.some.inj e))]
     rw [hu] at EV
     clear hu h4
     by_cases h5 : 200 < s.size
     · have t5 : (200 : Int) < (s.size : Int) := by omega
       have E := hid (show readL s.data.toList = noneR 0 2 from EV.out.trans (by unfold asText; rw [if_pos (by rw [HS.out]; omega)]))
       go_wp2_with fail
       refine bodyPost_ret (v := .tuple #[.agg jSZ, .int .i64 0, .int .i64 2]) (by simp [results, results8, go_sem, f0, f1, f2, f3, f4, f5, f6, f7, f8, f9, f10, f11, f12, f13, lt2]) rfl (ReadPost.nil (V := w2) E.out B2 ?_)
       repeat (with_reducible first | exact Kept.refl _ _ | refine Kept.setCell ?_ _ _ | refine Kept.alloc ?_ _ | refine Kept.drew ?_ _ | refine kept_drew1 ?_)
     · have t5 : ¬ (200 : Int) < (s.size : Int) := by omega
       have E := hid (show readL s.data.toList = valR ⟨3, 0, s⟩ from EV.out.trans (by unfold asText; rw [if_neg (by rw [HS.out]; omega), str_id]))
       go_wp2_with fail
       refine bodyPost_ret (v := .tuple #[.agg (jSV 1 3 0 s none 0), .int .i64 0, .int .i64 0]) (by simp [results, results8, go_sem, f0, f1, f2, f3, f4, f5, f6, f7, f8, f9, f10, f11, f12, f13, lt2]) rfl (ReadPost.val (V := w2) E.out B2 ?_)
       repeat (with_reducible first | exact Kept.refl _ _ | refine Kept.setCell ?_ _ _ | refine Kept.alloc ?_ _ | refine Kept.drew ?_ _ | refine kept_drew1 ?_)
 · rw [hpb, if_pos rfl] at EV
   clear hpb
   go_wp2_with fail
   refine bodyPost_ret (v := .tuple #[.agg (jSV 1 2 n { data := #[] } none 0), .int .i64 0, .int .i64 0]) (by simp [results, results8, go_sem, f0, f1, f2, f3, f4, f5, f6, f7, f8, f9, f10, f11, f12, f13, lt2]) rfl (ReadPost.val (V := w2) EV.out B2 ?_)
   repeat (with_reducible first | exact Kept.refl _ _ | refine Kept.setCell ?_ _ _ | refine Kept.alloc ?_ _ | refine Kept.drew ?_ _ | refine kept_drew1 ?_)
end Go.Proofs.YticehalcnbjccaaGreatDoor.SourceC
namespace Go.Proofs.YticehalcnbjccaaGreatDoor.TreeC
set_option maxRecDepth 100000
set_option maxHeartbeats 8000000
set_option linter.unusedVariables false
open Go.RowKit NumC LexC
open Cd
open Tryz
open Lib (hid)
theorem rfits1 (f : Fld) (A : Option Addr) (m c : Nat) (w : World) (hm : m ≤ 1000000) (ho : f.op.size ≤ 1000000) (hk : f.k = 1) :
   Calls prog 87 #[.agg (jN f A m c)] w fun e w' => e = .returned (.bool (fitsB f m)) ∧ Below w.heap.size w w' := by
 have HB1 : Hid (Below w.heap.size w (w.alloc (.cells (jN f A m c) 31))) := hid ((Below.refl _ _).alloc (Nat.le_refl _) _)
 have L1 : NLoc (w.alloc (.cells (jN f A m c) 31)) w.heap.size f A m c := ⟨heap_alloc_new _ _⟩
 have eV : ∀ W, (binOp .eql 24 (.agg (jV f.vk f.vn f.vs)) (.agg (jV 0 0 { data := #[] }))).run prog W = .ok (.bool (noVB f)) W := fun W => ValueC.eqs _ _ _ _ _ _ W
 have eR : ∀ W, (binOp .eql 28 (.agg (jR f.r1 f.r2 f.r3 f.r4)) (.agg (jR 0 0 0 0))).run prog W = .ok (.bool (noRB f)) W := fun W => eq_rect _ _ _ _ _ _ _ _ W
 have eO : (f.op.toList == []) = noOB f := rfl
 generalize hD : fitsB f m = D
 have HD := hid hD.symm
 clear hD
 have HK := hid hk
 clear hk
 obtain ⟨d0, d1, d2, d3, d4, d5, d6, d7, d8, d9, -⟩ := L1.cells
 have b1 : (f.k == 1) = true := beq_iff_eq.2 HK.out
 have hvn : Hid (f.vn = f.vn) := hid rfl
 by_cases v2 : f.vk = 2
 · by_cases vn : 0 ≤ f.vn
   · have t2 : (f.vk == 2) = true := beq_iff_eq.2 v2
     have tn : decide (0 ≤ f.vn) = true := decide_eq_true vn
     have HE : Hid (D = (ValueC.goodB ⟨f.vk, f.vn, f.vs⟩ && noRB f && noOB f && decide (m = 0))) := hid (HD.out.trans (by simp [fitsB, constB, HK.out, v2, vn]))
     clear HD v2 vn
     go_enter func87, ntmps87
     go_wp2_with fail
     refine (ValueC.rgood_of f.vk f.vn f.vs _).mono ?_; rintro e w2 ⟨rfl, hb2⟩
     have L2 := L1.kept (Kept.of hb2) (Nat.ne_of_lt L1.lt)
     have HB2 := hid (HB1.out.trans (hb2.mono HB1.out.size))
     clear d0 d1 d2 d3 d4 d5 d6 d7 d8 d9 hb2 L1
     obtain ⟨d0, d1, d2, d3, d4, d5, d6, d7, d8, d9, -⟩ := L2.cells
     by_cases hm0 : m = 0
     · have e0 : ((m : Int) == 0) = true := beq_iff_eq.2 (by omega)
       have hM := hid hm0
       clear hm0
       cases c0 : ValueC.goodB ⟨f.vk, f.vn, f.vs⟩ <;> cases c1 : noRB f <;> cases c2 : noOB f
       all_goals
         go_wp2_with fail
         go_ret
         exact ⟨by rw [HE.out]; simp [c0, c1, c2, hM.out], HB2.out⟩
     · have e0 : ((m : Int) == 0) = false := beq_eq_false_iff_ne.2 (by omega)
       have hM := hid hm0
       clear hm0
       cases c0 : ValueC.goodB ⟨f.vk, f.vn, f.vs⟩ <;> cases c1 : noRB f <;> cases c2 : noOB f
       all_goals
         go_wp2_with fail
         go_ret
         exact ⟨by rw [HE.out]; simp [c0, c1, c2, hM.out], HB2.out⟩
   · have t2 : (f.vk == 2) = true := beq_iff_eq.2 v2
     have t3 : (f.vk == 3) = false := beq_eq_false_iff_ne.2 (by omega)
     have t1 : (f.vk == 1) = false := beq_eq_false_iff_ne.2 (by omega)
     have tn : decide (0 ≤ f.vn) = false := decide_eq_false vn
     have HE : Hid (D = false) := hid (HD.out.trans (by simp [fitsB, constB, HK.out, v2, vn]))
     clear HD v2 vn
     go_enter func87, ntmps87
     go_wp2_with fail
     go_wp2_with fail
     go_ret
     exact ⟨by rw [HE.out]; rfl, HB1.out⟩
 · by_cases v3 : f.vk = 3
   · have t2 : (f.vk == 2) = false := beq_eq_false_iff_ne.2 (by omega)
     have t3 : (f.vk == 3) = true := beq_iff_eq.2 v3
     have HE : Hid (D = (ValueC.goodB ⟨f.vk, f.vn, f.vs⟩ && noRB f && noOB f && decide (m = 0))) := hid (HD.out.trans (by simp [fitsB, constB, HK.out, v3]))
     clear HD v2 v3
     go_enter func87, ntmps87
     go_wp2_with fail
     refine (ValueC.rgood_of f.vk f.vn f.vs _).mono ?_; rintro e w2 ⟨rfl, hb2⟩
     have L2 := L1.kept (Kept.of hb2) (Nat.ne_of_lt L1.lt)
     have HB2 := hid (HB1.out.trans (hb2.mono HB1.out.size))
     clear d0 d1 d2 d3 d4 d5 d6 d7 d8 d9 hb2 L1
     obtain ⟨d0, d1, d2, d3, d4, d5, d6, d7, d8, d9, -⟩ := L2.cells
     by_cases hm0 : m = 0
     · have e0 : ((m : Int) == 0) = true := beq_iff_eq.2 (by omega)
       have hM := hid hm0
       clear hm0
       cases c0 : ValueC.goodB ⟨f.vk, f.vn, f.vs⟩ <;> cases c1 : noRB f <;> cases c2 : noOB f
       all_goals
         go_wp2_with fail
         go_ret
         exact ⟨by rw [HE.out]; simp [c0, c1, c2, hM.out], HB2.out⟩
     · have e0 : ((m : Int) == 0) = false := beq_eq_false_iff_ne.2 (by omega)
       have hM := hid hm0
       clear hm0
       cases c0 : ValueC.goodB ⟨f.vk, f.vn, f.vs⟩ <;> cases c1 : noRB f <;> cases c2 : noOB f
       all_goals
         go_wp2_with fail
         go_ret
         exact ⟨by rw [HE.out]; simp [c0, c1, c2, hM.out], HB2.out⟩
   · by_cases v1 : f.vk = 1
     · have t2 : (f.vk == 2) = false := beq_eq_false_iff_ne.2 (by omega)
       have t3 : (f.vk == 3) = false := beq_eq_false_iff_ne.2 (by omega)
       have t1 : (f.vk == 1) = true := beq_iff_eq.2 v1
       have HE : Hid (D = (ValueC.goodB ⟨f.vk, f.vn, f.vs⟩ && noRB f && noOB f && decide (m = 0))) := hid (HD.out.trans (by simp [fitsB, constB, HK.out, v1]))
       clear HD v1 v2 v3
       go_enter func87, ntmps87
       go_wp2_with fail
       refine (ValueC.rgood_of f.vk f.vn f.vs _).mono ?_; rintro e w2 ⟨rfl, hb2⟩
       have L2 := L1.kept (Kept.of hb2) (Nat.ne_of_lt L1.lt)
       have HB2 := hid (HB1.out.trans (hb2.mono HB1.out.size))
       clear d0 d1 d2 d3 d4 d5 d6 d7 d8 d9 hb2 L1
       obtain ⟨d0, d1, d2, d3, d4, d5, d6, d7, d8, d9, -⟩ := L2.cells
       by_cases hm0 : m = 0
       · have e0 : ((m : Int) == 0) = true := beq_iff_eq.2 (by omega)
         have hM := hid hm0
         clear hm0
         cases c0 : ValueC.goodB ⟨f.vk, f.vn, f.vs⟩ <;> cases c1 : noRB f <;> cases c2 : noOB f
         all_goals
           go_wp2_with fail
           go_ret
           exact ⟨by rw [HE.out]; simp [c0, c1, c2, hM.out], HB2.out⟩
       · have e0 : ((m : Int) == 0) = false := beq_eq_false_iff_ne.2 (by omega)
         have hM := hid hm0
         clear hm0
         cases c0 : ValueC.goodB ⟨f.vk, f.vn, f.vs⟩ <;> cases c1 : noRB f <;> cases c2 : noOB f
         all_goals
           go_wp2_with fail
           go_ret
           exact ⟨by rw [HE.out]; simp [c0, c1, c2, hM.out], HB2.out⟩
     · have t2 : (f.vk == 2) = false := beq_eq_false_iff_ne.2 (by omega)
       have t3 : (f.vk == 3) = false := beq_eq_false_iff_ne.2 (by omega)
       have t1 : (f.vk == 1) = false := beq_eq_false_iff_ne.2 (by omega)
       have HE : Hid (D = false) := hid (HD.out.trans (by simp [fitsB, constB, HK.out, v1, v2, v3]))
       clear HD v1 v2 v3
       go_enter func87, ntmps87
       go_wp2_with fail
       go_wp2_with fail
       go_ret
       exact ⟨by rw [HE.out]; rfl, HB1.out⟩
theorem rfits2 (f : Fld) (A : Option Addr) (m c : Nat) (w : World) (hm : m ≤ 1000000) (ho : f.op.size ≤ 1000000) (hk : f.k = 2) :
   Calls prog 87 #[.agg (jN f A m c)] w fun e w' => e = .returned (.bool (fitsB f m)) ∧ Below w.heap.size w w' := by
 have HB1 : Hid (Below w.heap.size w (w.alloc (.cells (jN f A m c) 31))) := hid ((Below.refl _ _).alloc (Nat.le_refl _) _)
 have L1 : NLoc (w.alloc (.cells (jN f A m c) 31)) w.heap.size f A m c := ⟨heap_alloc_new _ _⟩
 have eV : ∀ W, (binOp .eql 24 (.agg (jV f.vk f.vn f.vs)) (.agg (jV 0 0 { data := #[] }))).run prog W = .ok (.bool (noVB f)) W := fun W => ValueC.eqs _ _ _ _ _ _ W
 have eR : ∀ W, (binOp .eql 28 (.agg (jR f.r1 f.r2 f.r3 f.r4)) (.agg (jR 0 0 0 0))).run prog W = .ok (.bool (noRB f)) W := fun W => eq_rect _ _ _ _ _ _ _ _ W
 have eT : ∀ W, (binOp .eql 26 (.agg #[.int .i64 f.r3, .int .i64 f.r4]) (.agg #[.int .i64 0, .int .i64 0])).run prog W = .ok (.bool (noTB f)) W := fun W => eq_addr _ _ _ _ W
 have eO : (f.op.toList == []) = noOB f := rfl
 generalize hD : fitsB f m = D
 have HD := hid hD.symm
 clear hD
 have HK := hid hk
 clear hk
 obtain ⟨d0, d1, d2, d3, d4, d5, d6, d7, d8, d9, -⟩ := L1.cells
 have b1 : (f.k == 1) = false := beq_eq_false_iff_ne.2 (by rw [HK.out]; decide)
 have b2 : (f.k == 2) = true := beq_iff_eq.2 HK.out
 have HE : Hid (D = (AddrC.cellB f.r1 f.r2 && noTB f && noVB f && noOB f && decide (m = 0))) := hid (HD.out.trans (by simp [fitsB, HK.out]))
 clear HD
 cases v0 : noVB f
 · have HC := hid (And.intro True.intro True.intro)
   go_enter func87, ntmps87
   go_wp2_with fail
   go_ret
   exact ⟨by rw [HE.out]; simp [v0], HB1.out⟩
 · have HC := hid (And.intro True.intro True.intro)
   go_enter func87, ntmps87
   go_wp2_with fail
   refine (AddrC.rgood f.r1 f.r2 _).mono ?_; rintro e w2 ⟨rfl, hb2⟩
   have L2 := L1.kept (Kept.of hb2) (Nat.ne_of_lt L1.lt)
   have HB2 := hid (HB1.out.trans (hb2.mono HB1.out.size))
   clear d0 d1 d2 d3 d4 d5 d6 d7 d8 d9 hb2 L1
   obtain ⟨d0, d1, d2, d3, d4, d5, d6, d7, d8, d9, -⟩ := L2.cells
   by_cases hm0 : m = 0
   · have e0 : ((m : Int) == 0) = true := beq_iff_eq.2 (by omega)
     have hM := hid hm0
     clear hm0
     cases c0 : AddrC.cellB f.r1 f.r2 <;> cases c1 : noTB f <;> cases c2 : noOB f
     all_goals
       go_wp2_with fail
       go_ret
       exact ⟨by rw [HE.out]; simp [v0, c0, c1, c2, hM.out], HB2.out⟩
   · have e0 : ((m : Int) == 0) = false := beq_eq_false_iff_ne.2 (by omega)
     have hM := hid hm0
     clear hm0
     cases c0 : AddrC.cellB f.r1 f.r2 <;> cases c1 : noTB f <;> cases c2 : noOB f
     all_goals
       go_wp2_with fail
       go_ret
       exact ⟨by rw [HE.out]; simp [v0, c0, c1, c2, hM.out], HB2.out⟩
theorem rfits3 (f : Fld) (A : Option Addr) (m c : Nat) (w : World) (hm : m ≤ 1000000) (ho : f.op.size ≤ 1000000) (hk : f.k = 3) :
   Calls prog 87 #[.agg (jN f A m c)] w fun e w' => e = .returned (.bool (fitsB f m)) ∧ Below w.heap.size w w' := by
 have HB1 : Hid (Below w.heap.size w (w.alloc (.cells (jN f A m c) 31))) := hid ((Below.refl _ _).alloc (Nat.le_refl _) _)
 have L1 : NLoc (w.alloc (.cells (jN f A m c) 31)) w.heap.size f A m c := ⟨heap_alloc_new _ _⟩
 have eV : ∀ W, (binOp .eql 24 (.agg (jV f.vk f.vn f.vs)) (.agg (jV 0 0 { data := #[] }))).run prog W = .ok (.bool (noVB f)) W := fun W => ValueC.eqs _ _ _ _ _ _ W
 have eR : ∀ W, (binOp .eql 28 (.agg (jR f.r1 f.r2 f.r3 f.r4)) (.agg (jR 0 0 0 0))).run prog W = .ok (.bool (noRB f)) W := fun W => eq_rect _ _ _ _ _ _ _ _ W
 have eO : (f.op.toList == []) = noOB f := rfl
 generalize hD : fitsB f m = D
 have HD := hid hD.symm
 clear hD
 have HK := hid hk
 clear hk
 obtain ⟨d0, d1, d2, d3, d4, d5, d6, d7, d8, d9, -⟩ := L1.cells
 have b1 : (f.k == 1) = false := beq_eq_false_iff_ne.2 (by rw [HK.out]; decide)
 have b2 : (f.k == 2) = false := beq_eq_false_iff_ne.2 (by rw [HK.out]; decide)
 have b3 : (f.k == 3) = true := beq_iff_eq.2 HK.out
 have HE : Hid (D = (AddrC.fineB f.r1 f.r2 f.r3 f.r4 && noVB f && noOB f && decide (m = 0))) := hid (HD.out.trans (by simp [fitsB, HK.out]))
 clear HD
 cases v0 : noVB f
 · have HC := hid (And.intro True.intro True.intro)
   go_enter func87, ntmps87
   go_wp2_with fail
   go_ret
   exact ⟨by rw [HE.out]; simp [v0], HB1.out⟩
 · have HC := hid (And.intro True.intro True.intro)
   go_enter func87, ntmps87
   go_wp2_with fail
   refine (AddrC.rfine f.r1 f.r2 f.r3 f.r4 _).mono ?_; rintro e w2 ⟨rfl, hb2⟩
   have L2 := L1.kept (Kept.of hb2) (Nat.ne_of_lt L1.lt)
   have HB2 := hid (HB1.out.trans (hb2.mono HB1.out.size))
   clear d0 d1 d2 d3 d4 d5 d6 d7 d8 d9 hb2 L1
   obtain ⟨d0, d1, d2, d3, d4, d5, d6, d7, d8, d9, -⟩ := L2.cells
   by_cases hm0 : m = 0
   · have e0 : ((m : Int) == 0) = true := beq_iff_eq.2 (by omega)
     have hM := hid hm0
     clear hm0
     cases c0 : AddrC.fineB f.r1 f.r2 f.r3 f.r4 <;> cases c2 : noOB f
     all_goals
       go_wp2_with fail
       go_ret
       exact ⟨by rw [HE.out]; simp [v0, c0, c2, hM.out], HB2.out⟩
   · have e0 : ((m : Int) == 0) = false := beq_eq_false_iff_ne.2 (by omega)
     have hM := hid hm0
     clear hm0
     cases c0 : AddrC.fineB f.r1 f.r2 f.r3 f.r4 <;> cases c2 : noOB f
     all_goals
       go_wp2_with fail
       go_ret
       exact ⟨by rw [HE.out]; simp [v0, c0, c2, hM.out], HB2.out⟩
theorem rfits4 (f : Fld) (A : Option Addr) (m c : Nat) (w : World) (hm : m ≤ 1000000) (ho : f.op.size ≤ 1000000) (hk : f.k = 4) :
   Calls prog 87 #[.agg (jN f A m c)] w fun e w' => e = .returned (.bool (fitsB f m)) ∧ Below w.heap.size w w' := by
 have HB1 : Hid (Below w.heap.size w (w.alloc (.cells (jN f A m c) 31))) := hid ((Below.refl _ _).alloc (Nat.le_refl _) _)
 have L1 : NLoc (w.alloc (.cells (jN f A m c) 31)) w.heap.size f A m c := ⟨heap_alloc_new _ _⟩
 have eV : ∀ W, (binOp .eql 24 (.agg (jV f.vk f.vn f.vs)) (.agg (jV 0 0 { data := #[] }))).run prog W = .ok (.bool (noVB f)) W := fun W => ValueC.eqs _ _ _ _ _ _ W
 have eR : ∀ W, (binOp .eql 28 (.agg (jR f.r1 f.r2 f.r3 f.r4)) (.agg (jR 0 0 0 0))).run prog W = .ok (.bool (noRB f)) W := fun W => eq_rect _ _ _ _ _ _ _ _ W
 have eO : (f.op.toList == []) = noOB f := rfl
 generalize hD : fitsB f m = D
 have HD := hid hD.symm
 clear hD
 have HK := hid hk
 clear hk
 obtain ⟨d0, d1, d2, d3, d4, d5, d6, d7, d8, d9, -⟩ := L1.cells
 have b1 : (f.k == 1) = false := beq_eq_false_iff_ne.2 (by rw [HK.out]; decide)
 have b2 : (f.k == 2) = false := beq_eq_false_iff_ne.2 (by rw [HK.out]; decide)
 have b3 : (f.k == 3) = false := beq_eq_false_iff_ne.2 (by rw [HK.out]; decide)
 have b4 : (f.k == 4) = true := beq_iff_eq.2 HK.out
 have HE : Hid (D = (decide (m = 1) && noVB f && noRB f && noOB f)) := hid (HD.out.trans (by simp [fitsB, HK.out]))
 clear HD
 cases v1 : noRB f <;> cases v0 : noVB f
 · have HC := hid (And.intro True.intro True.intro)
   go_enter func87, ntmps87
   go_wp2_with fail
   go_ret
   exact ⟨by rw [HE.out]; simp [v0, v1], HB1.out⟩
 · have HC := hid (And.intro True.intro True.intro)
   go_enter func87, ntmps87
   go_wp2_with fail
   go_ret
   exact ⟨by rw [HE.out]; simp [v0, v1], HB1.out⟩
 · have HC := hid (And.intro True.intro True.intro)
   go_enter func87, ntmps87
   go_wp2_with fail
   go_ret
   exact ⟨by rw [HE.out]; simp [v0, v1], HB1.out⟩
 · have HC := hid (And.intro True.intro True.intro)
   have HK2 := HK
   by_cases hm0 : m = 1
   · have e0 : ((m : Int) == 1) = true := beq_iff_eq.2 (by omega)
     have hM := hid hm0
     clear hm0
     cases c2 : noOB f
     all_goals
       go_enter func87, ntmps87
       go_wp2_with fail
       go_ret
       exact ⟨by rw [HE.out]; simp [v0, v1, c2, hM.out], HB1.out⟩
   · have e0 : ((m : Int) == 1) = false := beq_eq_false_iff_ne.2 (by omega)
     have hM := hid hm0
     clear hm0
     cases c2 : noOB f
     all_goals
       go_enter func87, ntmps87
       go_wp2_with fail
       go_ret
       exact ⟨by rw [HE.out]; simp [v0, v1, c2, hM.out], HB1.out⟩
theorem rfits5 (f : Fld) (A : Option Addr) (m c : Nat) (w : World) (hm : m ≤ 1000000) (ho : f.op.size ≤ 1000000) (hk : f.k = 5) :
   Calls prog 87 #[.agg (jN f A m c)] w fun e w' => e = .returned (.bool (fitsB f m)) ∧ Below w.heap.size w w' := by
 have HB1 : Hid (Below w.heap.size w (w.alloc (.cells (jN f A m c) 31))) := hid ((Below.refl _ _).alloc (Nat.le_refl _) _)
 have L1 : NLoc (w.alloc (.cells (jN f A m c) 31)) w.heap.size f A m c := ⟨heap_alloc_new _ _⟩
 have eV : ∀ W, (binOp .eql 24 (.agg (jV f.vk f.vn f.vs)) (.agg (jV 0 0 { data := #[] }))).run prog W = .ok (.bool (noVB f)) W := fun W => ValueC.eqs _ _ _ _ _ _ W
 have eR : ∀ W, (binOp .eql 28 (.agg (jR f.r1 f.r2 f.r3 f.r4)) (.agg (jR 0 0 0 0))).run prog W = .ok (.bool (noRB f)) W := fun W => eq_rect _ _ _ _ _ _ _ _ W
 have eO : (f.op.toList == []) = noOB f := rfl
 generalize hD : fitsB f m = D
 have HD := hid hD.symm
 clear hD
 have HK := hid hk
 clear hk
 obtain ⟨d0, d1, d2, d3, d4, d5, d6, d7, d8, d9, -⟩ := L1.cells
 have b1 : (f.k == 1) = false := beq_eq_false_iff_ne.2 (by rw [HK.out]; decide)
 have b2 : (f.k == 2) = false := beq_eq_false_iff_ne.2 (by rw [HK.out]; decide)
 have b3 : (f.k == 3) = false := beq_eq_false_iff_ne.2 (by rw [HK.out]; decide)
 have b4 : (f.k == 4) = false := beq_eq_false_iff_ne.2 (by rw [HK.out]; decide)
 have b5 : (f.k == 5) = true := beq_iff_eq.2 HK.out
 have HE : Hid (D = (binB f.op && decide (m = 2) && noVB f && noRB f)) := hid (HD.out.trans (by simp [fitsB, HK.out]))
 clear HD
 cases v1 : noRB f <;> cases v0 : noVB f
 · have HC := hid (And.intro True.intro True.intro)
   go_enter func87, ntmps87
   go_wp2_with fail
   go_ret
   exact ⟨by rw [HE.out]; simp [v0, v1], HB1.out⟩
 · have HC := hid (And.intro True.intro True.intro)
   go_enter func87, ntmps87
   go_wp2_with fail
   go_ret
   exact ⟨by rw [HE.out]; simp [v0, v1], HB1.out⟩
 · have HC := hid (And.intro True.intro True.intro)
   go_enter func87, ntmps87
   go_wp2_with fail
   go_ret
   exact ⟨by rw [HE.out]; simp [v0, v1], HB1.out⟩
 · have HC := hid (And.intro True.intro True.intro)
   go_enter func87, ntmps87
   go_wp2_with fail
   refine (rsignOp f.op _).mono ?_; rintro e w2 ⟨rfl, hb2⟩
   have L2 := L1.kept (Kept.of hb2) (Nat.ne_of_lt L1.lt)
   have HB2 := hid (HB1.out.trans (hb2.mono HB1.out.size))
   clear d0 d1 d2 d3 d4 d5 d6 d7 d8 d9 hb2 L1
   obtain ⟨d0, d1, d2, d3, d4, d5, d6, d7, d8, d9, -⟩ := L2.cells
   by_cases hm0 : m = 2
   · have e0 : ((m : Int) == 2) = true := beq_iff_eq.2 (by omega)
     have hM := hid hm0
     clear hm0
     cases c0 : binB f.op
     all_goals
       go_wp2_with fail
       go_ret
       exact ⟨by rw [HE.out]; simp [v0, v1, c0, hM.out], HB2.out⟩
   · have e0 : ((m : Int) == 2) = false := beq_eq_false_iff_ne.2 (by omega)
     have hM := hid hm0
     clear hm0
     cases c0 : binB f.op
     all_goals
       go_wp2_with fail
       go_ret
       exact ⟨by rw [HE.out]; simp [v0, v1, c0, hM.out], HB2.out⟩
theorem rword6 (s : ByteArray) (w : World) (hs : s.size ≤ 1000000) : Calls prog 108 #[.string s] w fun e w' => e = .returned (.bool (fnB s)) ∧ Below w.heap.size w w' :=
 (rword s w hs).mono fun e w' ⟨h1, h2⟩ => ⟨by rw [h1, fn_word], by rw [h2]; exact Below.refl _ _⟩
theorem rfits6 (f : Fld) (A : Option Addr) (m c : Nat) (w : World) (hm : m ≤ 1000000) (ho : f.op.size ≤ 1000000) (hk : f.k = 6) :
   Calls prog 87 #[.agg (jN f A m c)] w fun e w' => e = .returned (.bool (fitsB f m)) ∧ Below w.heap.size w w' := by
 have HB1 : Hid (Below w.heap.size w (w.alloc (.cells (jN f A m c) 31))) := hid ((Below.refl _ _).alloc (Nat.le_refl _) _)
 have L1 : NLoc (w.alloc (.cells (jN f A m c) 31)) w.heap.size f A m c := ⟨heap_alloc_new _ _⟩
 have eV : ∀ W, (binOp .eql 24 (.agg (jV f.vk f.vn f.vs)) (.agg (jV 0 0 { data := #[] }))).run prog W = .ok (.bool (noVB f)) W := fun W => ValueC.eqs _ _ _ _ _ _ W
 have eR : ∀ W, (binOp .eql 28 (.agg (jR f.r1 f.r2 f.r3 f.r4)) (.agg (jR 0 0 0 0))).run prog W = .ok (.bool (noRB f)) W := fun W => eq_rect _ _ _ _ _ _ _ _ W
 have eO : (f.op.toList == []) = noOB f := rfl
 generalize hD : fitsB f m = D
 have HD := hid hD.symm
 clear hD
 have HK := hid hk
 clear hk
 obtain ⟨d0, d1, d2, d3, d4, d5, d6, d7, d8, d9, -⟩ := L1.cells
 have b1 : (f.k == 1) = false := beq_eq_false_iff_ne.2 (by rw [HK.out]; decide)
 have b2 : (f.k == 2) = false := beq_eq_false_iff_ne.2 (by rw [HK.out]; decide)
 have b3 : (f.k == 3) = false := beq_eq_false_iff_ne.2 (by rw [HK.out]; decide)
 have b4 : (f.k == 4) = false := beq_eq_false_iff_ne.2 (by rw [HK.out]; decide)
 have b5 : (f.k == 5) = false := beq_eq_false_iff_ne.2 (by rw [HK.out]; decide)
 have b6 : (f.k == 6) = true := beq_iff_eq.2 HK.out
 have HE : Hid (D = (fnB f.op && decide (m ≤ 10) && noVB f && noRB f)) := hid (HD.out.trans (by simp [fitsB, HK.out]))
 clear HD
 cases v1 : noRB f <;> cases v0 : noVB f
 · have HC := hid (And.intro True.intro True.intro)
   go_enter func87, ntmps87
   go_wp2_with fail
   go_ret
   exact ⟨by rw [HE.out]; simp [v0, v1], HB1.out⟩
 · have HC := hid (And.intro True.intro True.intro)
   go_enter func87, ntmps87
   go_wp2_with fail
   go_ret
   exact ⟨by rw [HE.out]; simp [v0, v1], HB1.out⟩
 · have HC := hid (And.intro True.intro True.intro)
   go_enter func87, ntmps87
   go_wp2_with fail
   go_ret
   exact ⟨by rw [HE.out]; simp [v0, v1], HB1.out⟩
 · have HC := hid (And.intro True.intro True.intro)
   go_enter func87, ntmps87
   go_wp2_with fail
   refine (rword6 f.op _ ho).mono ?_; rintro e w2 ⟨rfl, hb2⟩
   have L2 := L1.kept (Kept.of hb2) (Nat.ne_of_lt L1.lt)
   have HB2 := hid (HB1.out.trans (hb2.mono HB1.out.size))
   clear d0 d1 d2 d3 d4 d5 d6 d7 d8 d9 hb2 L1
   obtain ⟨d0, d1, d2, d3, d4, d5, d6, d7, d8, d9, -⟩ := L2.cells
   by_cases hm0 : m ≤ 10
   · have e0 : decide ((m : Int) ≤ 10) = true := decide_eq_true (by omega)
     have hM := hid hm0
     clear hm0
     cases c0 : fnB f.op
     all_goals
       go_wp2_with fail
       go_ret
       exact ⟨by rw [HE.out]; simp [v0, v1, c0, hM.out], HB2.out⟩
   · have e0 : decide ((m : Int) ≤ 10) = false := decide_eq_false (by omega)
     have hM := hid hm0
     clear hm0
     cases c0 : fnB f.op
     all_goals
       go_wp2_with fail
       go_ret
       exact ⟨by rw [HE.out]; simp [v0, v1, c0, hM.out], HB2.out⟩
theorem rfits0 (f : Fld) (A : Option Addr) (m c : Nat) (w : World) (hm : m ≤ 1000000) (ho : f.op.size ≤ 1000000) (hk : f.k ≠ 1 ∧ f.k ≠ 2 ∧ f.k ≠ 3 ∧ f.k ≠ 4 ∧ f.k ≠ 5 ∧ f.k ≠ 6) :
   Calls prog 87 #[.agg (jN f A m c)] w fun e w' => e = .returned (.bool (fitsB f m)) ∧ Below w.heap.size w w' := by
 have HB1 : Hid (Below w.heap.size w (w.alloc (.cells (jN f A m c) 31))) := hid ((Below.refl _ _).alloc (Nat.le_refl _) _)
 have L1 : NLoc (w.alloc (.cells (jN f A m c) 31)) w.heap.size f A m c := ⟨heap_alloc_new _ _⟩
 have eV : ∀ W, (binOp .eql 24 (.agg (jV f.vk f.vn f.vs)) (.agg (jV 0 0 { data := #[] }))).run prog W = .ok (.bool (noVB f)) W := fun W => ValueC.eqs _ _ _ _ _ _ W
 have eR : ∀ W, (binOp .eql 28 (.agg (jR f.r1 f.r2 f.r3 f.r4)) (.agg (jR 0 0 0 0))).run prog W = .ok (.bool (noRB f)) W := fun W => eq_rect _ _ _ _ _ _ _ _ W
 have eO : (f.op.toList == []) = noOB f := rfl
 generalize hD : fitsB f m = D
 have HD := hid hD.symm
 clear hD
 have HK := hid hk
 clear hk
 obtain ⟨d0, d1, d2, d3, d4, d5, d6, d7, d8, d9, -⟩ := L1.cells
 have b1 : (f.k == 1) = false := beq_eq_false_iff_ne.2 HK.out.1
 have b2 : (f.k == 2) = false := beq_eq_false_iff_ne.2 HK.out.2.1
 have b3 : (f.k == 3) = false := beq_eq_false_iff_ne.2 HK.out.2.2.1
 have b4 : (f.k == 4) = false := beq_eq_false_iff_ne.2 HK.out.2.2.2.1
 have b5 : (f.k == 5) = false := beq_eq_false_iff_ne.2 HK.out.2.2.2.2.1
 have b6 : (f.k == 6) = false := beq_eq_false_iff_ne.2 HK.out.2.2.2.2.2
 have HE : Hid (D = false) := hid (HD.out.trans (by simp [fitsB, HK.out.1, HK.out.2.1, HK.out.2.2.1, HK.out.2.2.2.1, HK.out.2.2.2.2.1, HK.out.2.2.2.2.2]))
 clear HD
 go_enter func87, ntmps87
 go_wp2_with fail
 go_ret
 exact ⟨by rw [HE.out]; rfl, HB1.out⟩
theorem rfits (f : Fld) (A : Option Addr) (m c : Nat) (w : World) (hm : m ≤ 1000000) (ho : f.op.size ≤ 1000000) :
   Calls prog 87 #[.agg (jN f A m c)] w fun e w' => e = .returned (.bool (fitsB f m)) ∧ Below w.heap.size w w' := by
 by_cases h1 : f.k = 1
 · exact rfits1 f A m c w hm ho h1
 by_cases h2 : f.k = 2
 · exact rfits2 f A m c w hm ho h2
 by_cases h3 : f.k = 3
 · exact rfits3 f A m c w hm ho h3
 by_cases h4 : f.k = 4
 · exact rfits4 f A m c w hm ho h4
 by_cases h5 : f.k = 5
 · exact rfits5 f A m c w hm ho h5
 by_cases h6 : f.k = 6
 · exact rfits6 f A m c w hm ho h6
 exact rfits0 f A m c w hm ho ⟨h1, h2, h3, h4, h5, h6⟩
end Go.Proofs.YticehalcnbjccaaGreatDoor.TreeC
