/-
  Contracts of lex's reference: digit, letter, Quote.
-/
import Derived.Test.YtccigjelbnjcoaaGreatDoorPTellNumN
import Derived.Test.YtccigjelbnjcoaaGreatDoorPTellNumR
import Derived.Test.YtccigjelbnjcoaaGreatDoorProg
import Derived.Test.YtccigjelbnjcoaaGreatDoorPTellNumM
import Derived.WalkKit
import Derived.WalkSpells
import Derived.WalkLawsBesides
import Derived.Deep.QuietTactic
import Derived.BigQuiet
import Derived.Lib.Hide
import Derived.Laws.IdiomStrings
import Derived.LoopTactic
import Derived.LoopN
import Derived.Lib.Strings
namespace Go.Proofs.YtccigjelbnjcoaaGreatDoor.LexC
set_option linter.unusedVariables false
open Go.RowKit Go.Proofs.YtccigjelbnjcoaaGreatDoor.NumC
theorem list_len (s : ByteArray) : s.size = s.data.toList.length := by unfold ByteArray.size; exact Array.length_toList.symm
theorem take_snoc (s : ByteArray) (k : Nat) (h : k < s.size) : s.data.toList.take (k + 1) = s.data.toList.take k ++ [s[k]] := by
  rw [List.take_succ_eq_append_getElem (by rw [← list_len]; exact h)]; rfl
theorem str_app (x y : List UInt8) : str x ++ str y = str (x ++ y) := ByteArray.mk_append_mk x y
theorem str_size (x : List UInt8) : (str x).size = x.length := by show x.toArray.size = _; simp
end Go.Proofs.YtccigjelbnjcoaaGreatDoor.LexC
namespace Go.Proofs.YtccigjelbnjcoaaGreatDoor.LexC
set_option linter.unusedVariables false
open Go.RowKit Go.Proofs.YtccigjelbnjcoaaGreatDoor.NumC
theorem isDigit (c : UInt8) (w : World) :
    Calls Tryz.prog 71 #[.int .u8 (c.toNat : Int)] w fun e w' => e = .returned (.bool (digB c)) ∧ w = w' := by
  by_cases h0g : 48 ≤ c.toNat
  · by_cases h0l : c.toNat ≤ 57
    · have E : Hid (digB c = true) := Lib.hid (digB_iff.2 (by omega))
      have dg48 : decide ((48 : Int) ≤ (c.toNat : Int)) = true := decide_eq_true (by omega)
      have dl57 : decide ((c.toNat : Int) ≤ 57) = true := decide_eq_true (by omega)
      go_enter Tryz.func71, Tryz.ntmps71
      go_wp2
      go_ret
      exact ⟨ret1 E.out.symm, rfl⟩
    · have u0 := h0l
      have E : Hid (digB c = false) := Lib.hid (Bool.eq_false_iff.2 fun h => by have := digB_iff.1 h; omega)
      have dg48 : decide ((48 : Int) ≤ (c.toNat : Int)) = true := decide_eq_true (by omega)
      have dl57 : decide ((c.toNat : Int) ≤ 57) = false := decide_eq_false (by omega)
      go_enter Tryz.func71, Tryz.ntmps71
      go_wp2
      go_ret
      exact ⟨ret1 E.out.symm, rfl⟩
  · have u0 := h0g
    have E : Hid (digB c = false) := Lib.hid (Bool.eq_false_iff.2 fun h => by have := digB_iff.1 h; omega)
    have dg48 : decide ((48 : Int) ≤ (c.toNat : Int)) = false := decide_eq_false (by omega)
    go_enter Tryz.func71, Tryz.ntmps71
    go_wp2
    go_ret
    exact ⟨ret1 E.out.symm, rfl⟩
theorem inName (c : UInt8) (w : World) :
    Calls Tryz.prog 73 #[.int .u8 (c.toNat : Int)] w fun e w' => e = .returned (.bool (wordB c)) ∧ w = w' := by
  by_cases h0g : 97 ≤ c.toNat
  · by_cases h0l : c.toNat ≤ 122
    · have E : Hid (wordB c = true) := Lib.hid (by unfold wordB; rw [letB_iff.2 (by omega)]; rfl)
      have dg97 : decide ((97 : Int) ≤ (c.toNat : Int)) = true := decide_eq_true (by omega)
      have dl122 : decide ((c.toNat : Int) ≤ 122) = true := decide_eq_true (by omega)
      go_enter Tryz.func73, Tryz.ntmps73
      go_wp2_with fail
      go_ret
      exact ⟨ret1 E.out.symm, rfl⟩
    · have u0 := h0l
      by_cases h1g : 65 ≤ c.toNat
      · by_cases h1l : c.toNat ≤ 90
        · have E : Hid (wordB c = true) := Lib.hid (by unfold wordB; rw [letB_iff.2 (by omega)]; rfl)
          have dg97 : decide ((97 : Int) ≤ (c.toNat : Int)) = true := decide_eq_true (by omega)
          have dl122 : decide ((c.toNat : Int) ≤ 122) = false := decide_eq_false (by omega)
          have dg65 : decide ((65 : Int) ≤ (c.toNat : Int)) = true := decide_eq_true (by omega)
          have dl90 : decide ((c.toNat : Int) ≤ 90) = true := decide_eq_true (by omega)
          go_enter Tryz.func73, Tryz.ntmps73
          go_wp2_with fail
          go_ret
          exact ⟨ret1 E.out.symm, rfl⟩
        · have u1 := h1l
          have E : Hid (wordB c = digB c) := Lib.hid (by unfold wordB; rw [show letB c = false from Bool.eq_false_iff.2 fun h => by have := letB_iff.1 h; omega]; rfl)
          have dg97 : decide ((97 : Int) ≤ (c.toNat : Int)) = true := decide_eq_true (by omega)
          have dl122 : decide ((c.toNat : Int) ≤ 122) = false := decide_eq_false (by omega)
          have dg65 : decide ((65 : Int) ≤ (c.toNat : Int)) = true := decide_eq_true (by omega)
          have dl90 : decide ((c.toNat : Int) ≤ 90) = false := decide_eq_false (by omega)
          go_enter Tryz.func73, Tryz.ntmps73
          go_wp2_with fail
          refine (isDigit c _).mono ?_; rintro e w1 ⟨rfl, rfl⟩
          go_wp2
          go_ret
          exact ⟨ret1 E.out.symm, rfl⟩
      · have u1 := h1g
        have E : Hid (wordB c = digB c) := Lib.hid (by unfold wordB; rw [show letB c = false from Bool.eq_false_iff.2 fun h => by have := letB_iff.1 h; omega]; rfl)
        have dg97 : decide ((97 : Int) ≤ (c.toNat : Int)) = true := decide_eq_true (by omega)
        have dl122 : decide ((c.toNat : Int) ≤ 122) = false := decide_eq_false (by omega)
        have dg65 : decide ((65 : Int) ≤ (c.toNat : Int)) = false := decide_eq_false (by omega)
        go_enter Tryz.func73, Tryz.ntmps73
        go_wp2_with fail
        refine (isDigit c _).mono ?_; rintro e w1 ⟨rfl, rfl⟩
        go_wp2
        go_ret
        exact ⟨ret1 E.out.symm, rfl⟩
  · have u0 := h0g
    by_cases h1g : 65 ≤ c.toNat
    · by_cases h1l : c.toNat ≤ 90
      · have E : Hid (wordB c = true) := Lib.hid (by unfold wordB; rw [letB_iff.2 (by omega)]; rfl)
        have dg97 : decide ((97 : Int) ≤ (c.toNat : Int)) = false := decide_eq_false (by omega)
        have dg65 : decide ((65 : Int) ≤ (c.toNat : Int)) = true := decide_eq_true (by omega)
        have dl90 : decide ((c.toNat : Int) ≤ 90) = true := decide_eq_true (by omega)
        go_enter Tryz.func73, Tryz.ntmps73
        go_wp2_with fail
        go_ret
        exact ⟨ret1 E.out.symm, rfl⟩
      · have u1 := h1l
        have E : Hid (wordB c = digB c) := Lib.hid (by unfold wordB; rw [show letB c = false from Bool.eq_false_iff.2 fun h => by have := letB_iff.1 h; omega]; rfl)
        have dg97 : decide ((97 : Int) ≤ (c.toNat : Int)) = false := decide_eq_false (by omega)
        have dg65 : decide ((65 : Int) ≤ (c.toNat : Int)) = true := decide_eq_true (by omega)
        have dl90 : decide ((c.toNat : Int) ≤ 90) = false := decide_eq_false (by omega)
        go_enter Tryz.func73, Tryz.ntmps73
        go_wp2_with fail
        refine (isDigit c _).mono ?_; rintro e w1 ⟨rfl, rfl⟩
        go_wp2
        go_ret
        exact ⟨ret1 E.out.symm, rfl⟩
    · have u1 := h1g
      have E : Hid (wordB c = digB c) := Lib.hid (by unfold wordB; rw [show letB c = false from Bool.eq_false_iff.2 fun h => by have := letB_iff.1 h; omega]; rfl)
      have dg97 : decide ((97 : Int) ≤ (c.toNat : Int)) = false := decide_eq_false (by omega)
      have dg65 : decide ((65 : Int) ≤ (c.toNat : Int)) = false := decide_eq_false (by omega)
      go_enter Tryz.func73, Tryz.ntmps73
      go_wp2_with fail
      refine (isDigit c _).mono ?_; rintro e w1 ⟨rfl, rfl⟩
      go_wp2
      go_ret
      exact ⟨ret1 E.out.symm, rfl⟩
theorem run_stop {p : UInt8 → Bool} {l : List UInt8} {n : Nat} (h1 : ∀ k, k < n → ∃ h : k < l.length, p l[k] = true) (h2 : n = l.length ∨ ∃ h : n < l.length, p l[n] = false) (hn : n ≤ l.length) : (l.takeWhile p).length = n := by
  have e := take_run (i := 0) (fun k _ hk => h1 k hk) h2 (Nat.zero_le _) hn
  have := take_len e (Nat.zero_le _) hn
  simpa using this
set_option maxRecDepth 100000 in
theorem countDigit (s : ByteArray) (w : World) (hs : s.size ≤ 1000000) :
    Calls Tryz.prog 74 #[.string s, .func (.func 71) #[] #[]] w fun e w' => e = .returned (.int .i64 ((s.data.toList.takeWhile digB).length : Nat)) ∧ w = w' := by
  go_enter Tryz.func74, Tryz.ntmps74
  go_wp2
  go_loop [5] (fun a => ∃ n : Nat, n ≤ s.size ∧ a = .int .i64 n ∧ Hid (∀ k, k < n → ∃ h : k < s.data.toList.length, digB s.data.toList[k] = true)) (fun a => s.size - (intOf a).toNat)
  case atStart => exact ⟨0, Nat.zero_le _, rfl, Lib.hid (fun k hk => absurd hk (Nat.not_lt_zero _))⟩
  case round =>
    obtain ⟨n, hn, rfl, HA⟩ := hrel
    by_cases hlt : n < s.size
    · have hll : n < s.data.toList.length := by rw [← list_len]; exact hlt
      cases hd : digB s[n]
      · have E := Lib.hid (run_stop HA.out (Or.inr ⟨hll, hd⟩) (by omega))
        have HD := Lib.hid hd
        clear hd
        go_wp2_with fail
        refine (isDigit s[n] _).mono ?_; rw [HD.out]; rintro e w1 ⟨rfl, rfl⟩
        go_wp2
        go_ret
        exact ⟨by rw [E.out]; rfl, rfl⟩
      · have HN : Hid (∀ k, k < n + 1 → ∃ h : k < s.data.toList.length, digB s.data.toList[k] = true) := Lib.hid (fun k hk => by
          by_cases e : k = n
          · subst e; exact ⟨hll, hd⟩
          · exact HA.out k (by omega))
        have HD := Lib.hid hd
        clear hd
        go_wp2_with fail
        refine (isDigit s[n] _).mono ?_; rw [HD.out]; rintro e w1 ⟨rfl, rfl⟩
        go_wp2
        go_round
        case rel => exact ⟨n + 1, by omega, by go_num, HN⟩
        case measure => simp [intOf]; omega
    · have E := Lib.hid (run_stop HA.out (Or.inl (by rw [← list_len]; omega)) (by rw [← list_len]; omega))
      go_wp2
      go_ret
      exact ⟨by rw [E.out]; rfl, rfl⟩
set_option maxRecDepth 100000 in
theorem countName (s : ByteArray) (w : World) (hs : s.size ≤ 1000000) :
    Calls Tryz.prog 74 #[.string s, .func (.func 73) #[] #[]] w fun e w' => e = .returned (.int .i64 ((s.data.toList.takeWhile wordB).length : Nat)) ∧ w = w' := by
  go_enter Tryz.func74, Tryz.ntmps74
  go_wp2
  go_loop [5] (fun a => ∃ n : Nat, n ≤ s.size ∧ a = .int .i64 n ∧ Hid (∀ k, k < n → ∃ h : k < s.data.toList.length, wordB s.data.toList[k] = true)) (fun a => s.size - (intOf a).toNat)
  case atStart => exact ⟨0, Nat.zero_le _, rfl, Lib.hid (fun k hk => absurd hk (Nat.not_lt_zero _))⟩
  case round =>
    obtain ⟨n, hn, rfl, HA⟩ := hrel
    by_cases hlt : n < s.size
    · have hll : n < s.data.toList.length := by rw [← list_len]; exact hlt
      cases hd : wordB s[n]
      · have E := Lib.hid (run_stop HA.out (Or.inr ⟨hll, hd⟩) (by omega))
        have HD := Lib.hid hd
        clear hd
        go_wp2_with fail
        refine (inName s[n] _).mono ?_; rw [HD.out]; rintro e w1 ⟨rfl, rfl⟩
        go_wp2
        go_ret
        exact ⟨by rw [E.out]; rfl, rfl⟩
      · have HN : Hid (∀ k, k < n + 1 → ∃ h : k < s.data.toList.length, wordB s.data.toList[k] = true) := Lib.hid (fun k hk => by
          by_cases e : k = n
          · subst e; exact ⟨hll, hd⟩
          · exact HA.out k (by omega))
        have HD := Lib.hid hd
        clear hd
        go_wp2_with fail
        refine (inName s[n] _).mono ?_; rw [HD.out]; rintro e w1 ⟨rfl, rfl⟩
        go_wp2
        go_round
        case rel => exact ⟨n + 1, by omega, by go_num, HN⟩
        case measure => simp [intOf]; omega
    · have E := Lib.hid (run_stop HA.out (Or.inl (by rw [← list_len]; omega)) (by rw [← list_len]; omega))
      go_wp2
      go_ret
      exact ⟨by rw [E.out]; rfl, rfl⟩
end Go.Proofs.YtccigjelbnjcoaaGreatDoor.LexC
