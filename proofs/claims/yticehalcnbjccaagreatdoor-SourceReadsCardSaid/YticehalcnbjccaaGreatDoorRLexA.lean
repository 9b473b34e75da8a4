/-
  Contracts of lex's reference: digit, letter, Quote.
-/
import Derived.Test.YticehalcnbjccaaGreatDoorRNumN
import Derived.Test.YticehalcnbjccaaGreatDoorRNumR
import Derived.Test.YticehalcnbjccaaGreatDoorProg
import Derived.Test.YticehalcnbjccaaGreatDoorRNumM
import Derived.WalkKit
import Derived.WalkSpells
import Derived.WalkLawsBesides
import Derived.Deep.QuietTactic
import Derived.BigQuiet
import Derived.Lib.Hide
import Derived.Laws.IdiomStrings
import Derived.LoopTactic
import Derived.LoopN
import Derived.Lib.Strings
namespace Go.Proofs.YticehalcnbjccaaGreatDoor.LexC
set_option maxRecDepth 100000
set_option maxHeartbeats 8000000
set_option linter.unusedVariables false
open Go.RowKit NumC
open Tryz
open Lib (hid)
theorem u8_lt (c : UInt8) : c.toNat < 256 := c.toNat_lt
theorem list_len (s : ByteArray) : s.size = s.data.toList.length := by unfold ByteArray.size; exact Array.length_toList.symm
theorem rdigit (c : UInt8) (w : World) :
   Calls prog 79 #[.int .u8 (c.toNat : Int)] w fun e w' => e = .returned (.bool (digB c)) ∧ w = w' := by
 by_cases h0g : 48 ≤ c.toNat
 · by_cases h0l : c.toNat ≤ 57
   · have E : Hid (digB c = true) := hid (digB_iff.2 (by omega))
     have dg48 : decide ((48 : Int) ≤ (c.toNat : Int)) = true := decide_eq_true (by omega)
     have dl57 : decide ((c.toNat : Int) ≤ 57) = true := decide_eq_true (by omega)
     go_enter func79, ntmps79
     go_wp2
     go_ret
     exact ⟨ret1 E.out.symm, rfl⟩
   · have u0 := h0l
     have E : Hid (digB c = false) := hid (Bool.eq_false_iff.2 fun h => by have := digB_iff.1 h; omega)
     have dg48 : decide ((48 : Int) ≤ (c.toNat : Int)) = true := decide_eq_true (by omega)
     have dl57 : decide ((c.toNat : Int) ≤ 57) = false := decide_eq_false (by omega)
     go_enter func79, ntmps79
     go_wp2
     go_ret
     exact ⟨ret1 E.out.symm, rfl⟩
 · have u0 := h0g
   have E : Hid (digB c = false) := hid (Bool.eq_false_iff.2 fun h => by have := digB_iff.1 h; omega)
   have dg48 : decide ((48 : Int) ≤ (c.toNat : Int)) = false := decide_eq_false (by omega)
   go_enter func79, ntmps79
   go_wp2
   go_ret
   exact ⟨ret1 E.out.symm, rfl⟩
theorem rletter (c : UInt8) (w : World) :
   Calls prog 81 #[.int .u8 (c.toNat : Int)] w fun e w' => e = .returned (.bool (letB c)) ∧ w = w' := by
 by_cases h0g : 97 ≤ c.toNat
 · by_cases h0l : c.toNat ≤ 122
   · have E : Hid (letB c = true) := hid (letB_iff.2 (by omega))
     have dg97 : decide ((97 : Int) ≤ (c.toNat : Int)) = true := decide_eq_true (by omega)
     have dl122 : decide ((c.toNat : Int) ≤ 122) = true := decide_eq_true (by omega)
     go_enter func81, ntmps81
     go_wp2
     go_ret
     exact ⟨ret1 E.out.symm, rfl⟩
   · have u0 := h0l
     by_cases h1g : 65 ≤ c.toNat
     · by_cases h1l : c.toNat ≤ 90
       · have E : Hid (letB c = true) := hid (letB_iff.2 (by omega))
         have dg97 : decide ((97 : Int) ≤ (c.toNat : Int)) = true := decide_eq_true (by omega)
         have dl122 : decide ((c.toNat : Int) ≤ 122) = false := decide_eq_false (by omega)
         have dg65 : decide ((65 : Int) ≤ (c.toNat : Int)) = true := decide_eq_true (by omega)
         have dl90 : decide ((c.toNat : Int) ≤ 90) = true := decide_eq_true (by omega)
         go_enter func81, ntmps81
         go_wp2
         go_ret
         exact ⟨ret1 E.out.symm, rfl⟩
       · have u1 := h1l
         have E : Hid (letB c = false) := hid (Bool.eq_false_iff.2 fun h => by have := letB_iff.1 h; omega)
         have dg97 : decide ((97 : Int) ≤ (c.toNat : Int)) = true := decide_eq_true (by omega)
         have dl122 : decide ((c.toNat : Int) ≤ 122) = false := decide_eq_false (by omega)
         have dg65 : decide ((65 : Int) ≤ (c.toNat : Int)) = true := decide_eq_true (by omega)
         have dl90 : decide ((c.toNat : Int) ≤ 90) = false := decide_eq_false (by omega)
         go_enter func81, ntmps81
         go_wp2
         go_ret
         exact ⟨ret1 E.out.symm, rfl⟩
     · have u1 := h1g
       have E : Hid (letB c = false) := hid (Bool.eq_false_iff.2 fun h => by have := letB_iff.1 h; omega)
       have dg97 : decide ((97 : Int) ≤ (c.toNat : Int)) = true := decide_eq_true (by omega)
       have dl122 : decide ((c.toNat : Int) ≤ 122) = false := decide_eq_false (by omega)
       have dg65 : decide ((65 : Int) ≤ (c.toNat : Int)) = false := decide_eq_false (by omega)
       go_enter func81, ntmps81
       go_wp2
       go_ret
       exact ⟨ret1 E.out.symm, rfl⟩
 · have u0 := h0g
   by_cases h1g : 65 ≤ c.toNat
   · by_cases h1l : c.toNat ≤ 90
     · have E : Hid (letB c = true) := hid (letB_iff.2 (by omega))
       have dg97 : decide ((97 : Int) ≤ (c.toNat : Int)) = false := decide_eq_false (by omega)
       have dg65 : decide ((65 : Int) ≤ (c.toNat : Int)) = true := decide_eq_true (by omega)
       have dl90 : decide ((c.toNat : Int) ≤ 90) = true := decide_eq_true (by omega)
       go_enter func81, ntmps81
       go_wp2
       go_ret
       exact ⟨ret1 E.out.symm, rfl⟩
     · have u1 := h1l
       have E : Hid (letB c = false) := hid (Bool.eq_false_iff.2 fun h => by have := letB_iff.1 h; omega)
       have dg97 : decide ((97 : Int) ≤ (c.toNat : Int)) = false := decide_eq_false (by omega)
       have dg65 : decide ((65 : Int) ≤ (c.toNat : Int)) = true := decide_eq_true (by omega)
       have dl90 : decide ((c.toNat : Int) ≤ 90) = false := decide_eq_false (by omega)
       go_enter func81, ntmps81
       go_wp2
       go_ret
       exact ⟨ret1 E.out.symm, rfl⟩
   · have u1 := h1g
     have E : Hid (letB c = false) := hid (Bool.eq_false_iff.2 fun h => by have := letB_iff.1 h; omega)
     have dg97 : decide ((97 : Int) ≤ (c.toNat : Int)) = false := decide_eq_false (by omega)
     have dg65 : decide ((65 : Int) ≤ (c.toNat : Int)) = false := decide_eq_false (by omega)
     go_enter func81, ntmps81
     go_wp2
     go_ret
     exact ⟨ret1 E.out.symm, rfl⟩
theorem take_snoc (s : ByteArray) (k : Nat) (h : k < s.size) : s.data.toList.take (k + 1) = s.data.toList.take k ++ [s[k]] := by
 rw [List.take_succ_eq_append_getElem (by rw [← list_len]; exact h)]; rfl
theorem quB_snoc (l : List UInt8) (c : UInt8) : quB (l ++ [c]) = quB l ++ quC c := by unfold quB; rw [List.flatMap_append]; simp
theorem quC_34 {c : UInt8} (h : c.toNat = 34) : quC c = [34, c] := by
 have : c = 34 := UInt8.toNat_inj.1 h
 subst this; rfl
theorem quC_no {c : UInt8} (h : c.toNat ≠ 34) : quC c = [c] := if_neg fun e => h (by rw [e]; rfl)
theorem quC_len (c : UInt8) : (quC c).length ≤ 2 := by unfold quC; split <;> simp
theorem quB_len (l : List UInt8) : (quB l).length ≤ 2 * l.length + 1 := by
 unfold quB
 induction l with
 | nil => simp
 | cons c l ih =>
   have := quC_len c
   simp only [List.flatMap_cons, List.length_cons, List.length_append] at ih ⊢; omega
theorem str_app (x y : List UInt8) : str x ++ str y = str (x ++ y) := ByteArray.mk_append_mk x y
theorem str_size (x : List UInt8) : (str x).size = x.length := by show x.toArray.size = _; simp
theorem one_str (s : ByteArray) (k : Nat) (h : k < s.size) : s.extract k (k + 1) = str [s[k]] := by
 apply ByteArray.ext
 apply Array.toList_inj.1
 rw [Lib.extract_data, show k + 1 - k = 1 from by omega, List.drop_eq_getElem_cons (by rw [← list_len]; exact h)]
 rfl
theorem rquote (s : ByteArray) (w : World) (hs : s.size ≤ 1000000) :
   Calls prog 88 #[.string s] w fun e w' => e = .returned (.string (str (quL s.data.toList))) ∧ w = w' := by
 have S1 : str [34] = { data := #[34] } := rfl
 have HS1 := hid S1
 clear S1
 go_enter func88, ntmps88
 go_wp2
 go_loop [3, 4] (fun r i => ∃ k : Nat, k ≤ s.size ∧ i = .int .i64 k ∧ r = .string (str (quB (s.data.toList.take k)))) (fun _ i => s.size - (intOf i).toNat)
 case atStart => exact ⟨0, Nat.zero_le _, rfl, rfl⟩
 case round =>
   obtain ⟨k, hk, rfl, rfl⟩ := hrel
   have hq := quB_len (s.data.toList.take k)
   have hl : (s.data.toList.take k).length ≤ k := List.length_take_le _ _
   by_cases hlt : k < s.size
   · have HT : Hid (quB (s.data.toList.take (k + 1)) = quB (s.data.toList.take k) ++ quC s[k]) := hid (by rw [take_snoc s k hlt, quB_snoc])
     by_cases hc : s[k].toNat = 34
     · have c1 : ((s[k].toNat : Int) == 34) = true := by rw [hc]; rfl
       have A1 : (Op.stringOp .add (str (quB (s.data.toList.take k))) { data := #[34] }).run prog w = .ok (.string (str (quB (s.data.toList.take k) ++ [34]))) w := by
         rw [← HS1.out, run_string_add_sum w _ _ (by rw [str_size, str_size]; simp only [List.length_cons, List.length_nil]; omega), str_app]
       have A2 : (Op.stringOp .add (str (quB (s.data.toList.take k) ++ [34])) (s.extract k (k + 1))).run prog w = .ok (.string (str (quB (s.data.toList.take (k + 1))))) w := by
         rw [one_str s k hlt, run_string_add_sum w _ _ (by rw [str_size, str_size]; simp only [List.length_append, List.length_cons, List.length_nil]; omega), str_app, HT.out, quC_34 hc, List.append_assoc]; rfl
       clear hc
       go_wp2
       go_round
       case rel => exact ⟨k + 1, by omega, by go_num, rfl⟩
       case measure => simp [intOf]; omega
     · have c1 : ((s[k].toNat : Int) == 34) = false := beq_eq_false_iff_ne.2 (by omega)
       have A2 : (Op.stringOp .add (str (quB (s.data.toList.take k))) (s.extract k (k + 1))).run prog w = .ok (.string (str (quB (s.data.toList.take (k + 1))))) w := by
         rw [one_str s k hlt, run_string_add_sum w _ _ (by rw [str_size, str_size]; simp only [List.length_cons, List.length_nil]; omega), str_app, HT.out, quC_no hc]
       clear hc
       go_wp2
       go_round
       case rel => exact ⟨k + 1, by omega, by go_num, rfl⟩
       case measure => simp [intOf]; omega
   · have hks : k = s.size := by omega
     have HT : Hid (s.data.toList.take k = s.data.toList) := hid (List.take_of_length_le (by rw [← list_len]; omega))
     have A1 : (Op.stringOp .add (str (quB (s.data.toList.take k))) { data := #[34] }).run prog w = .ok (.string (str (quL s.data.toList))) w := by
       rw [← HS1.out, run_string_add_sum w _ _ (by rw [str_size, str_size]; simp only [List.length_cons, List.length_nil]; omega), str_app, HT.out]; rfl
     clear hks
     go_wp2
     go_ret
     exact ⟨rfl, rfl⟩
theorem isDigit (c : UInt8) (w : World) :
   Calls prog 120 #[.int .u8 (c.toNat : Int)] w fun e w' => e = .returned (.bool (digB c)) ∧ w = w' := by
 by_cases h0g : 48 ≤ c.toNat
 · by_cases h0l : c.toNat ≤ 57
   · have E : Hid (digB c = true) := hid (digB_iff.2 (by omega))
     have dg48 : decide ((48 : Int) ≤ (c.toNat : Int)) = true := decide_eq_true (by omega)
     have dl57 : decide ((c.toNat : Int) ≤ 57) = true := decide_eq_true (by omega)
     go_enter func120, ntmps120
     go_wp2
     go_ret
     exact ⟨ret1 E.out.symm, rfl⟩
   · have u0 := h0l
     have E : Hid (digB c = false) := hid (Bool.eq_false_iff.2 fun h => by have := digB_iff.1 h; omega)
     have dg48 : decide ((48 : Int) ≤ (c.toNat : Int)) = true := decide_eq_true (by omega)
     have dl57 : decide ((c.toNat : Int) ≤ 57) = false := decide_eq_false (by omega)
     go_enter func120, ntmps120
     go_wp2
     go_ret
     exact ⟨ret1 E.out.symm, rfl⟩
 · have u0 := h0g
   have E : Hid (digB c = false) := hid (Bool.eq_false_iff.2 fun h => by have := digB_iff.1 h; omega)
   have dg48 : decide ((48 : Int) ≤ (c.toNat : Int)) = false := decide_eq_false (by omega)
   go_enter func120, ntmps120
   go_wp2
   go_ret
   exact ⟨ret1 E.out.symm, rfl⟩
theorem inName (c : UInt8) (w : World) :
   Calls prog 122 #[.int .u8 (c.toNat : Int)] w fun e w' => e = .returned (.bool (wordB c)) ∧ w = w' := by
 by_cases h0g : 97 ≤ c.toNat
 · by_cases h0l : c.toNat ≤ 122
   · have E : Hid (wordB c = true) := hid (by unfold wordB; rw [letB_iff.2 (by omega)]; rfl)
     have dg97 : decide ((97 : Int) ≤ (c.toNat : Int)) = true := decide_eq_true (by omega)
     have dl122 : decide ((c.toNat : Int) ≤ 122) = true := decide_eq_true (by omega)
     go_enter func122, ntmps122
     go_wp2_with fail
     go_ret
     exact ⟨ret1 E.out.symm, rfl⟩
   · have u0 := h0l
     by_cases h1g : 65 ≤ c.toNat
     · by_cases h1l : c.toNat ≤ 90
       · have E : Hid (wordB c = true) := hid (by unfold wordB; rw [letB_iff.2 (by omega)]; rfl)
         have dg97 : decide ((97 : Int) ≤ (c.toNat : Int)) = true := decide_eq_true (by omega)
         have dl122 : decide ((c.toNat : Int) ≤ 122) = false := decide_eq_false (by omega)
         have dg65 : decide ((65 : Int) ≤ (c.toNat : Int)) = true := decide_eq_true (by omega)
         have dl90 : decide ((c.toNat : Int) ≤ 90) = true := decide_eq_true (by omega)
         go_enter func122, ntmps122
         go_wp2_with fail
         go_ret
         exact ⟨ret1 E.out.symm, rfl⟩
       · have u1 := h1l
         have E : Hid (wordB c = digB c) := hid (by unfold wordB; rw [show letB c = false from Bool.eq_false_iff.2 fun h => by have := letB_iff.1 h; omega]; rfl)
         have dg97 : decide ((97 : Int) ≤ (c.toNat : Int)) = true := decide_eq_true (by omega)
         have dl122 : decide ((c.toNat : Int) ≤ 122) = false := decide_eq_false (by omega)
         have dg65 : decide ((65 : Int) ≤ (c.toNat : Int)) = true := decide_eq_true (by omega)
         have dl90 : decide ((c.toNat : Int) ≤ 90) = false := decide_eq_false (by omega)
         go_enter func122, ntmps122
         go_wp2_with fail
         refine (isDigit c _).mono ?_; rintro e w1 ⟨rfl, rfl⟩
         go_wp2
         go_ret
         exact ⟨ret1 E.out.symm, rfl⟩
     · have u1 := h1g
       have E : Hid (wordB c = digB c) := hid (by unfold wordB; rw [show letB c = false from Bool.eq_false_iff.2 fun h => by have := letB_iff.1 h; omega]; rfl)
       have dg97 : decide ((97 : Int) ≤ (c.toNat : Int)) = true := decide_eq_true (by omega)
       have dl122 : decide ((c.toNat : Int) ≤ 122) = false := decide_eq_false (by omega)
       have dg65 : decide ((65 : Int) ≤ (c.toNat : Int)) = false := decide_eq_false (by omega)
       go_enter func122, ntmps122
       go_wp2_with fail
       refine (isDigit c _).mono ?_; rintro e w1 ⟨rfl, rfl⟩
       go_wp2
       go_ret
       exact ⟨ret1 E.out.symm, rfl⟩
 · have u0 := h0g
   by_cases h1g : 65 ≤ c.toNat
   · by_cases h1l : c.toNat ≤ 90
     · have E : Hid (wordB c = true) := hid (by unfold wordB; rw [letB_iff.2 (by omega)]; rfl)
       have dg97 : decide ((97 : Int) ≤ (c.toNat : Int)) = false := decide_eq_false (by omega)
       have dg65 : decide ((65 : Int) ≤ (c.toNat : Int)) = true := decide_eq_true (by omega)
       have dl90 : decide ((c.toNat : Int) ≤ 90) = true := decide_eq_true (by omega)
       go_enter func122, ntmps122
       go_wp2_with fail
       go_ret
       exact ⟨ret1 E.out.symm, rfl⟩
     · have u1 := h1l
       have E : Hid (wordB c = digB c) := hid (by unfold wordB; rw [show letB c = false from Bool.eq_false_iff.2 fun h => by have := letB_iff.1 h; omega]; rfl)
       have dg97 : decide ((97 : Int) ≤ (c.toNat : Int)) = false := decide_eq_false (by omega)
       have dg65 : decide ((65 : Int) ≤ (c.toNat : Int)) = true := decide_eq_true (by omega)
       have dl90 : decide ((c.toNat : Int) ≤ 90) = false := decide_eq_false (by omega)
       go_enter func122, ntmps122
       go_wp2_with fail
       refine (isDigit c _).mono ?_; rintro e w1 ⟨rfl, rfl⟩
       go_wp2
       go_ret
       exact ⟨ret1 E.out.symm, rfl⟩
   · have u1 := h1g
     have E : Hid (wordB c = digB c) := hid (by unfold wordB; rw [show letB c = false from Bool.eq_false_iff.2 fun h => by have := letB_iff.1 h; omega]; rfl)
     have dg97 : decide ((97 : Int) ≤ (c.toNat : Int)) = false := decide_eq_false (by omega)
     have dg65 : decide ((65 : Int) ≤ (c.toNat : Int)) = false := decide_eq_false (by omega)
     go_enter func122, ntmps122
     go_wp2_with fail
     refine (isDigit c _).mono ?_; rintro e w1 ⟨rfl, rfl⟩
     go_wp2
     go_ret
     exact ⟨ret1 E.out.symm, rfl⟩
theorem run_stop {p : UInt8 → Bool} {l : List UInt8} {n : Nat} (h1 : ∀ k, k < n → ∃ h : k < l.length, p l[k] = true) (h2 : n = l.length ∨ ∃ h : n < l.length, p l[n] = false) (hn : n ≤ l.length) : (l.takeWhile p).length = n := by
 have e := take_run (i := 0) (fun k _ hk => h1 k hk) h2 (Nat.zero_le _) hn
 have := take_len e (Nat.zero_le _) hn
 simpa using this
theorem countDigit (s : ByteArray) (w : World) (hs : s.size ≤ 1000000) :
   Calls prog 123 #[.string s, .func (.func 120) #[] #[]] w fun e w' => e = .returned (.int .i64 ((s.data.toList.takeWhile digB).length : Nat)) ∧ w = w' := by
 go_enter func123, ntmps123
 go_wp2
 go_loop [5] (fun a => ∃ n : Nat, n ≤ s.size ∧ a = .int .i64 n ∧ Hid (∀ k, k < n → ∃ h : k < s.data.toList.length, digB s.data.toList[k] = true)) (fun a => s.size - (intOf a).toNat)
 case atStart => exact ⟨0, Nat.zero_le _, rfl, hid (fun k hk => absurd hk (Nat.not_lt_zero _))⟩
 case round =>
   obtain ⟨n, hn, rfl, HA⟩ := hrel
   by_cases hlt : n < s.size
   · have hll : n < s.data.toList.length := by rw [← list_len]; exact hlt
     cases hd : digB s[n]
     · have E := hid (run_stop HA.out (Or.inr ⟨hll, hd⟩) (by omega))
       have HD := hid hd
       clear hd
       go_wp2_with fail
       refine (isDigit s[n] _).mono ?_; rw [HD.out]; rintro e w1 ⟨rfl, rfl⟩
       go_wp2
       go_ret
       exact ⟨by rw [E.out]; rfl, rfl⟩
     · have HN : Hid (∀ k, k < n + 1 → ∃ h : k < s.data.toList.length, digB s.data.toList[k] = true) := hid (fun k hk => by
         by_cases e : k = n
         · subst e; exact ⟨hll, hd⟩
         · exact HA.out k (by omega))
       have HD := hid hd
       clear hd
       go_wp2_with fail
       refine (isDigit s[n] _).mono ?_; rw [HD.out]; rintro e w1 ⟨rfl, rfl⟩
       go_wp2
       go_round
       case rel => exact ⟨n + 1, by omega, by go_num, HN⟩
       case measure => simp [intOf]; omega
   · have E := hid (run_stop HA.out (Or.inl (by rw [← list_len]; omega)) (by rw [← list_len]; omega))
     go_wp2
     go_ret
     exact ⟨by rw [E.out]; rfl, rfl⟩
theorem countName (s : ByteArray) (w : World) (hs : s.size ≤ 1000000) :
   Calls prog 123 #[.string s, .func (.func 122) #[] #[]] w fun e w' => e = .returned (.int .i64 ((s.data.toList.takeWhile wordB).length : Nat)) ∧ w = w' := by
 go_enter func123, ntmps123
 go_wp2
 go_loop [5] (fun a => ∃ n : Nat, n ≤ s.size ∧ a = .int .i64 n ∧ Hid (∀ k, k < n → ∃ h : k < s.data.toList.length, wordB s.data.toList[k] = true)) (fun a => s.size - (intOf a).toNat)
 case atStart => exact ⟨0, Nat.zero_le _, rfl, hid (fun k hk => absurd hk (Nat.not_lt_zero _))⟩
 case round =>
   obtain ⟨n, hn, rfl, HA⟩ := hrel
   by_cases hlt : n < s.size
   · have hll : n < s.data.toList.length := by rw [← list_len]; exact hlt
     cases hd : wordB s[n]
     · have E := hid (run_stop HA.out (Or.inr ⟨hll, hd⟩) (by omega))
       have HD := hid hd
       clear hd
       go_wp2_with fail
       refine (inName s[n] _).mono ?_; rw [HD.out]; rintro e w1 ⟨rfl, rfl⟩
       go_wp2
       go_ret
       exact ⟨by rw [E.out]; rfl, rfl⟩
     · have HN : Hid (∀ k, k < n + 1 → ∃ h : k < s.data.toList.length, wordB s.data.toList[k] = true) := hid (fun k hk => by
         by_cases e : k = n
         · subst e; exact ⟨hll, hd⟩
         · exact HA.out k (by omega))
       have HD := hid hd
       clear hd
       go_wp2_with fail
       refine (inName s[n] _).mono ?_; rw [HD.out]; rintro e w1 ⟨rfl, rfl⟩
       go_wp2
       go_round
       case rel => exact ⟨n + 1, by omega, by go_num, HN⟩
       case measure => simp [intOf]; omega
   · have E := hid (run_stop HA.out (Or.inl (by rw [← list_len]; omega)) (by rw [← list_len]; omega))
     go_wp2
     go_ret
     exact ⟨by rw [E.out]; rfl, rfl⟩
end Go.Proofs.YticehalcnbjccaaGreatDoor.LexC
