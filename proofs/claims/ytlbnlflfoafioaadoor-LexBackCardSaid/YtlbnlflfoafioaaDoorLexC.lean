/-
  Contracts of lex's reference: number, text.
-/
import Derived.Test.YtlbnlflfoafioaaDoorLexB
namespace Go.Proofs.YtlbnlflfoafioaaDoor.LexC
set_option linter.unusedVariables false
open Go.RowKit Go.Proofs.YtlbnlflfoafioaaDoor.NumC

/-- A token as a value. -/
def tokV (t : Tok) : Value := .agg #[.int .i64 t.k, .int .i64 t.n, .string t.s, .int .i64 t.at_]
def zeroT : Tok := ⟨0, 0, nob, 0⟩
theorem tok_eq {t t' : Tok} {m m' : Int} (h : t = t') (h2 : m = m') : Ending.returned (.tuple #[.agg #[.int .i64 t.k, .int .i64 t.n, .string t.s, .int .i64 t.at_], .int .i64 m]) = .returned (.tuple #[tokV t', .int .i64 m']) := by subst h h2; rfl
/-- The number at a place. -/
def numR (l : List UInt8) (i : Nat) : Tok × Int := if numV ((l.drop i).takeWhile digB) < 9223372036854775808 then (⟨1, numV ((l.drop i).takeWhile digB), nob, i⟩, ((l.drop i).takeWhile digB).length) else (zeroT, 0)
theorem run_more {p : UInt8 → Bool} {l : List UInt8} {i m : Nat} (h1 : ∀ k, i ≤ k → k < m → ∃ h : k < l.length, p l[k] = true) (hm : m ≤ l.length) : i ≤ m → ∃ r, (l.drop i).takeWhile p = (l.take m).drop i ++ r := by
  induction hk : m - i generalizing i with
  | zero =>
    intro hi
    have : i = m := by omega
    subst this
    exact ⟨(l.drop i).takeWhile p, by simp⟩
  | succ k ih =>
    intro hi
    obtain ⟨h, hp⟩ := h1 i (Nat.le_refl _) (by omega)
    obtain ⟨r, hr⟩ := ih (i := i + 1) (fun k hk hkn => h1 k (by omega) hkn) (by omega) (by omega)
    have h3 : i < (l.take m).length := by rw [List.length_take]; omega
    exact ⟨r, by rw [drop_cons h, List.takeWhile_cons, hp, if_pos rfl, List.drop_eq_getElem_cons h3, List.getElem_take, hr]; rfl⟩
/-- All bytes from i to n are digits, and come to U. -/
structure Dig (l : List UInt8) (i n : Nat) (U : Nat) : Prop where
  val : numV ((l.take n).drop i) = U
  all : ∀ k, i ≤ k → k < n → ∃ h : k < l.length, digB l[k] = true
theorem Dig.nil (l : List UInt8) (i : Nat) : Dig l i i 0 := ⟨by rw [List.drop_eq_nil_of_le (by rw [List.length_take]; omega)]; rfl, fun k h1 h2 => by omega⟩
theorem Dig.next {l : List UInt8} {i n U : Nat} (h : Dig l i n U) (hi : i ≤ n) (hn : n < l.length) (hd : digB l[n] = true) : Dig l i (n + 1) (U * 10 + (l[n].toNat - 48)) :=
  ⟨by rw [List.take_succ_eq_append_getElem hn, List.drop_append_of_le_length (by rw [List.length_take]; omega), numV_snoc, h.val],
   fun k h1 h2 => by
    by_cases e : k = n
    · subst e; exact ⟨hn, hd⟩
    · exact h.all k h1 (by omega)⟩
theorem Dig.stop {l : List UInt8} {i n U : Nat} (h : Dig l i n U) (hi : i ≤ n) (hn : n ≤ l.length) (h2 : n = l.length ∨ ∃ h : n < l.length, digB l[n] = false) (hU : U < 9223372036854775808) : numR l i = (⟨1, U, nob, i⟩, ((n : Int) - i)) := by
  have e := take_run h.all h2 hi hn
  have e2 := take_len e hi hn
  unfold numR
  rw [e2, e, h.val, if_pos hU]
  congr 1; omega
theorem Dig.over {l : List UInt8} {i n U : Nat} (h : Dig l i n U) (hi : i ≤ n) (hn : n ≤ l.length) (hU : 9223372036854775808 ≤ U) : numR l i = (zeroT, 0) := by
  obtain ⟨r, hr⟩ := run_more h.all hn hi
  have := numV_le ((l.take n).drop i) r
  rw [h.val] at this
  unfold numR
  rw [hr, if_neg (by omega)]
theorem getS (s : ByteArray) (n : Nat) (h : n < s.size) : s.data.toList[n]'(by rw [← list_len]; exact h) = s[n] := rfl

set_option maxRecDepth 100000 in
set_option maxHeartbeats 2000000 in
theorem rnumber (s : ByteArray) (i : Nat) (w : World) (hs : s.size ≤ 1000000) (hi : i ≤ s.size) :
    Calls Tryd.prog 29 #[.string s, .int .i64 i] w fun e w' => e = .returned (.tuple #[tokV (numR s.data.toList i).1, .int .i64 (numR s.data.toList i).2]) ∧ Below w.heap.size w w' := by
  have hB := Below.refl w.heap.size w
  go_enter Tryd.func29, Tryd.ntmps29
  go_wp2
  go_loop [6, 7] (fun a u => ∃ n U : Nat, i ≤ n ∧ n ≤ s.size ∧ a = .int .i64 n ∧ u = .int .u64 U ∧ U < 9223372036854775808 ∧ Hid (Dig s.data.toList i n U)) (fun a _ => s.size - (intOf a).toNat)
  case atStart => exact ⟨i, 0, Nat.le_refl _, hi, rfl, rfl, by omega, Lib.hid (Dig.nil _ _)⟩
  case round =>
    obtain ⟨n, U, hin, hn, rfl, rfl, hU, HD⟩ := hrel
    have fin : n = s.data.toList.length ∨ (∃ h : n < s.data.toList.length, digB s.data.toList[n] = false) → Hid (numR s.data.toList i = (⟨1, U, nob, i⟩, ((n : Int) - i))) := fun h2 =>
      Lib.hid (HD.out.stop hin (by rw [← list_len]; exact hn) h2 hU)
    by_cases hlt : n < s.size
    · have hll : n < s.data.toList.length := by rw [← list_len]; exact hlt
      cases hd : digB s[n]
      · have E := fin (Or.inr ⟨hll, hd⟩)
        have HD2 := Lib.hid hd
        clear hd fin
        go_wp2_with fail
        refine (rdigit s[n] _).mono ?_; rw [HD2.out]; rintro e w' ⟨rfl, rfl⟩
        go_wp2
        refine bodyPost_ret (v := .tuple #[.agg #[.int .i64 1, .int .i64 U, .string { data := #[] }, .int .i64 i], .int .i64 ((n : Int) - i)]) (by simp [results, Tryd.results29, go_sem]) rfl ⟨by rw [E.out]; rfl, ?_⟩
        repeat (first | with_reducible exact hB | with_reducible refine Below.setCell ?_ (by first | omega | (simp <;> omega)) _ | with_reducible refine Below.alloc ?_ (by first | omega | (simp <;> omega)) _)
      · have hd2 := digB_iff.1 hd
        have HN : Hid (Dig s.data.toList i (n + 1) (U * 10 + (s[n].toNat - 48))) := Lib.hid (HD.out.next hin hll hd)
        have HD2 := Lib.hid hd
        have g1 : 48 ≤ (s[n].toNat : Int) := by omega
        have g2 : (s[n].toNat : Int) ≤ 57 := by omega
        have HV : Hid (((U * 10 + (s[n].toNat - 48) : Nat) : Int) = (U : Int) * 10 + ((s[n].toNat : Int) - 48)) := Lib.hid (by omega)
        clear hd fin
        by_cases ho : U * 10 + (s[n].toNat - 48) < 9223372036854775808
        · have t1 : decide ((9223372036854775807 - ((s[n].toNat : Int) - 48)) / 10 < (U : Int)) = false := decide_eq_false (by omega)
          clear hd2
          go_wp2_with fail
          refine (rdigit s[n] _).mono ?_; rw [HD2.out]; rintro e w' ⟨rfl, rfl⟩
          go_wp2
          go_round
          case rel => exact ⟨n + 1, U * 10 + (s[n].toNat - 48), by omega, by omega, by go_num, by rw [HV.out], ho, HN⟩
          case measure => simp [intOf]; omega
        · have t1 : decide ((9223372036854775807 - ((s[n].toNat : Int) - 48)) / 10 < (U : Int)) = true := decide_eq_true (by omega)
          have E := Lib.hid (HN.out.over (by omega) (by omega) (by omega))
          clear hd2 ho
          go_wp2_with fail
          refine (rdigit s[n] _).mono ?_; rw [HD2.out]; rintro e w' ⟨rfl, rfl⟩
          go_wp2
          refine bodyPost_ret (v := .tuple #[.agg #[.int .i64 0, .int .i64 0, .string { data := #[] }, .int .i64 0], .int .i64 0]) (by simp [results, Tryd.results29, go_sem]) rfl ⟨by rw [E.out]; rfl, ?_⟩
          repeat (first | with_reducible exact hB | with_reducible refine Below.setCell ?_ (by first | omega | (simp <;> omega)) _ | with_reducible refine Below.alloc ?_ (by first | omega | (simp <;> omega)) _)
    · have E := fin (Or.inl (by rw [← list_len]; omega))
      clear fin
      go_wp2
      refine bodyPost_ret (v := .tuple #[.agg #[.int .i64 1, .int .i64 U, .string { data := #[] }, .int .i64 i], .int .i64 ((n : Int) - i)]) (by simp [results, Tryd.results29, go_sem]) rfl ⟨by rw [E.out]; rfl, ?_⟩
      repeat (first | with_reducible exact hB | with_reducible refine Below.setCell ?_ (by first | omega | (simp <;> omega)) _ | with_reducible refine Below.alloc ?_ (by first | omega | (simp <;> omega)) _)

/-- The text at a place. -/
def textR (l : List UInt8) (i : Nat) : Tok × Int := match txtL (l.drop (i + 1)) with
  | some r => (⟨2, 0, str r.1, i⟩, r.2 + 1)
  | none => (zeroT, 0)
/-- What is read from i + 1 to n comes to acc. -/
def Txt (l : List UInt8) (i n : Nat) (acc : List UInt8) : Prop := txtL (l.drop (i + 1)) = (txtL (l.drop n)).map fun r => (acc ++ r.1, (n - (i + 1)) + r.2)
theorem Txt.nil (l : List UInt8) (i : Nat) : Txt l i (i + 1) [] := by
  unfold Txt
  cases txtL (l.drop (i + 1)) <;> simp
theorem Txt.more {l : List UInt8} {i n : Nat} {acc : List UInt8} (h : Txt l i n acc) (hi : i < n) (hn : n < l.length) (hc : l[n] ≠ 34) : Txt l i (n + 1) (acc ++ [l[n]]) := by
  unfold Txt at *
  rw [h, drop_cons hn, txtL_no hc]
  cases txtL (l.drop (n + 1)) with
  | none => rfl
  | some r => simp; omega
theorem Txt.two {l : List UInt8} {i n : Nat} {acc : List UInt8} (h : Txt l i n acc) (hi : i < n) (hn : n + 1 < l.length) (hc : l[n] = 34) (hd : l[n + 1] = 34) : Txt l i (n + 2) (acc ++ [34]) := by
  unfold Txt at *
  rw [h, drop_cons (show n < l.length by omega), drop_cons hn, hc, hd, txtL_two]
  cases txtL (l.drop (n + 2)) with
  | none => rfl
  | some r => simp; omega
theorem Txt.end_ {l : List UInt8} {i n : Nat} {acc : List UInt8} (h : Txt l i n acc) (hi : i < n) (hn : n < l.length) (hc : l[n] = 34) (hd : ∀ h : n + 1 < l.length, l[n + 1] ≠ 34) : textR l i = (⟨2, 0, str acc, i⟩, (n : Int) + 1 - i) := by
  unfold Txt at h
  have e : txtL (l.drop n) = some ([], 1) := by
    rw [drop_cons hn, hc]
    refine txtL_one fun l' e2 => ?_
    by_cases h2 : n + 1 < l.length
    · have := hd h2
      rw [drop_cons h2] at e2
      injection e2 with h3 h4
      exact this h3
    · rw [List.drop_eq_nil_of_le (by omega)] at e2; cases e2
  rw [e] at h
  unfold textR
  rw [h]
  simp; omega
theorem Txt.no {l : List UInt8} {i n : Nat} {acc : List UInt8} (h : Txt l i n acc) (hn : l.length ≤ n) : textR l i = (zeroT, 0) := by
  unfold Txt at h
  rw [List.drop_eq_nil_of_le hn, txtL_nil] at h
  unfold textR
  rw [h]; rfl

set_option maxRecDepth 100000 in
set_option maxHeartbeats 2000000 in
theorem rtext (s : ByteArray) (i : Nat) (w : World) (hs : s.size ≤ 1000000) (hi : i < s.size) :
    Calls Tryd.prog 31 #[.string s, .int .i64 i] w fun e w' => e = .returned (.tuple #[tokV (textR s.data.toList i).1, .int .i64 (textR s.data.toList i).2]) ∧ Below w.heap.size w w' := by
  have hB := Below.refl w.heap.size w
  have HS1 : Hid (str [34] = { data := #[34] }) := Lib.hid rfl
  have HS0 : Hid (({ data := #[] } : ByteArray) = str []) := Lib.hid rfl
  go_enter Tryd.func31, Tryd.ntmps31
  go_wp2
  go_loop [6, 7] (fun o a => ∃ (n : Nat) (acc : List UInt8), i < n ∧ n ≤ s.size + 1 ∧ a = .int .i64 n ∧ o = .string (str acc) ∧ acc.length ≤ n ∧ Hid (Txt s.data.toList i n acc)) (fun _ a => s.size + 1 - (intOf a).toNat)
  case atStart => exact ⟨i + 1, [], by omega, by omega, by go_num, by rw [← HS0.out], by simp, Lib.hid (Txt.nil _ _)⟩
  case round =>
    obtain ⟨n, acc, hin, hn, rfl, rfl, hac, HT⟩ := hrel
    by_cases hlt : n < s.size
    · have hll : n < s.data.toList.length := by rw [← list_len]; exact hlt
      have f1 : ((s.data.toList[n]).toNat : Int) = (s[n].toNat : Int) := rfl
      by_cases hc : s[n].toNat = 34
      · have h34 : s.data.toList[n] = 34 := UInt8.toNat_inj.1 hc
        have c1 : ((s[n].toNat : Int) == 34) = true := by rw [hc]; rfl
        have c2 : ((s[n].toNat : Int) != 34) = false := by rw [bne, c1]; rfl
        by_cases h2 : n + 1 < s.size
        · have hl2 : n + 1 < s.data.toList.length := by rw [← list_len]; exact h2
          by_cases hd : s[n + 1].toNat = 34
          · have h342 : s.data.toList[n + 1] = 34 := UInt8.toNat_inj.1 hd
            have HN := Lib.hid (HT.out.two hin hl2 h34 h342)
            have c3 : ((s[n + 1].toNat : Int) == 34) = true := by rw [hd]; rfl
            have A1 : (Op.stringOp .add (str acc) { data := #[34] }).run Tryd.prog (w.alloc (.cells #[.int .i64 0, .int .i64 0, .string { data := #[] }, .int .i64 0] 33)) = .ok (.string (str (acc ++ [34]))) (w.alloc (.cells #[.int .i64 0, .int .i64 0, .string { data := #[] }, .int .i64 0] 33)) := by
              rw [← HS1.out, run_string_add_sum _ _ _ (by rw [str_size, str_size]; simp only [List.length_cons, List.length_nil]; omega), str_app]
            clear hc h34 hd h342 f1
            go_wp2
            go_round
            case rel => exact ⟨n + 2, acc ++ [34], by omega, by omega, by go_num, rfl, by simp; omega, HN⟩
            case measure => simp [intOf]; omega
          · have c3 : ((s[n + 1].toNat : Int) == 34) = false := beq_eq_false_iff_ne.2 (by omega)
            have E := Lib.hid (HT.out.end_ hin hll h34 (fun h e => hd (by have : s[n + 1] = 34 := e; rw [this]; rfl)))
            clear hc h34 hd f1
            go_wp2
            refine bodyPost_ret (v := .tuple #[.agg #[.int .i64 2, .int .i64 0, .string (str acc), .int .i64 i], .int .i64 ((n : Int) + 1 - i)]) (by simp [results, Tryd.results31, go_sem]) rfl ⟨by rw [E.out]; rfl, ?_⟩
            repeat (first | with_reducible exact hB | with_reducible refine Below.setCell ?_ (by first | omega | (simp <;> omega)) _ | with_reducible refine Below.alloc ?_ (by first | omega | (simp <;> omega)) _)
        · have E := Lib.hid (HT.out.end_ hin hll h34 (fun h e => h2 (by rw [list_len]; exact h)))
          clear hc h34 f1
          go_wp2
          refine bodyPost_ret (v := .tuple #[.agg #[.int .i64 2, .int .i64 0, .string (str acc), .int .i64 i], .int .i64 ((n : Int) + 1 - i)]) (by simp [results, Tryd.results31, go_sem]) rfl ⟨by rw [E.out]; rfl, ?_⟩
          repeat (first | with_reducible exact hB | with_reducible refine Below.setCell ?_ (by first | omega | (simp <;> omega)) _ | with_reducible refine Below.alloc ?_ (by first | omega | (simp <;> omega)) _)
      · have h34 : s.data.toList[n] ≠ 34 := fun e => hc (by have : s[n] = 34 := e; rw [this]; rfl)
        have HN : Hid (Txt s.data.toList i (n + 1) (acc ++ [s[n]])) := Lib.hid (HT.out.more hin hll h34)
        have c1 : ((s[n].toNat : Int) == 34) = false := beq_eq_false_iff_ne.2 (by omega)
        have c2 : ((s[n].toNat : Int) != 34) = true := by rw [bne, c1]; rfl
        have A1 : (Op.stringOp .add (str acc) (s.extract n (n + 1))).run Tryd.prog (w.alloc (.cells #[.int .i64 0, .int .i64 0, .string { data := #[] }, .int .i64 0] 33)) = .ok (.string (str (acc ++ [s[n]]))) (w.alloc (.cells #[.int .i64 0, .int .i64 0, .string { data := #[] }, .int .i64 0] 33)) := by
          rw [one_str s n hlt, run_string_add_sum _ _ _ (by rw [str_size, str_size]; simp only [List.length_cons, List.length_nil]; omega), str_app]
        clear hc h34 f1
        go_wp2
        go_round
        case rel => exact ⟨n + 1, acc ++ [s[n]], by omega, by omega, by go_num, rfl, by simp; omega, HN⟩
        case measure => simp [intOf]; omega
    · have E := Lib.hid (HT.out.no (by rw [← list_len]; omega))
      go_wp2
      refine bodyPost_ret (v := .tuple #[.agg #[.int .i64 0, .int .i64 0, .string { data := #[] }, .int .i64 0], .int .i64 0]) (by simp [results, Tryd.results31, go_sem]) rfl ⟨by rw [E.out]; rfl, ?_⟩
      repeat (first | with_reducible exact hB | with_reducible refine Below.setCell ?_ (by first | omega | (simp <;> omega)) _ | with_reducible refine Below.alloc ?_ (by first | omega | (simp <;> omega)) _)
end Go.Proofs.YtlbnlflfoafioaaDoor.LexC
