/-
  Contracts of the reference's numbers: digits, Dec, Parse.
-/
import Derived.Test.YtgkabngpekokaaaNumN
import Derived.Test.YtgkabngpekokaaaNumR
import Derived.Test.YtgkabngpekokaaaNumD
import Derived.Lib.Strings
import Derived.WideShapes
namespace Go.Proofs.Ytgkabngpekokaaa.NumC
set_option linter.unusedVariables false
open Go.RowKit

theorem ten_fin : ∀ i : Fin 10, (([48, 49, 50, 51, 52, 53, 54, 55, 56, 57] : List UInt8).drop i.val).take (i.val + 1 - i.val) = [UInt8.ofNat (48 + i.val)] := by decide
theorem piece (d : Nat) (h : d < 10) (l : List UInt8) : (({ data := #[48, 49, 50, 51, 52, 53, 54, 55, 56, 57] } : ByteArray).extract d (d + 1) ++ (⟨l.toArray⟩ : ByteArray)) = ⟨(UInt8.ofNat (48 + d) :: l).toArray⟩ := by
  apply WideShapes.bytes_inj
  rw [ByteArray.data_append, Array.toList_append, Lib.extract_data]
  have := ten_fin ⟨d, h⟩
  simp only at this
  rw [show ([48, 49, 50, 51, 52, 53, 54, 55, 56, 57] : List UInt8) = ({ data := #[48, 49, 50, 51, 52, 53, 54, 55, 56, 57] } : ByteArray).data.toList from rfl] at this
  rw [this]; rfl
theorem cons_str (c : UInt8) (l : List UInt8) : ((⟨#[c]⟩ : ByteArray) ++ (⟨l.toArray⟩ : ByteArray)) = ⟨(c :: l).toArray⟩ := by
  apply WideShapes.bytes_inj
  rw [ByteArray.data_append, Array.toList_append]; rfl
theorem rets' {s : ByteArray} {l : List UInt8} (h : s = ⟨l.toArray⟩) : Ending.returned (.string s) = .returned (.string ⟨l.toArray⟩) := by rw [h]
theorem vals' {s : ByteArray} {l : List UInt8} (h : s = ⟨l.toArray⟩) : Value.string s = .string ⟨l.toArray⟩ := by rw [h]
theorem digits_last {u v : Nat} {l : List UInt8} (h : Lib.decDigits u = Lib.decDigits v ++ l) (hv : v < 10) : Lib.decDigits u = UInt8.ofNat (48 + v % 10) :: l := by
  rw [h, Lib.decDigits_one hv, Nat.mod_eq_of_lt hv]; rfl
theorem digits_next {u v : Nat} {l : List UInt8} (h : Lib.decDigits u = Lib.decDigits v ++ l) (hv : ¬ v < 10) : Lib.decDigits u = Lib.decDigits (v / 10) ++ (UInt8.ofNat (48 + v % 10) :: l) := by
  rw [h, Lib.decDigits, dif_neg hv, List.append_assoc]; rfl

theorem siz_nat (a : Int) : siz a = ((siz a).toNat : Int) := by have := siz_nonneg a; omega

/-- Where the digits begin. -/
def fromOf (l : List UInt8) : Nat := if l.head? = some 45 then 1 else 0
theorem itoa_parts {l : List UInt8} {m : Int} (h : Lib.itoa m = l) : l.drop (fromOf l) = Lib.decDigits m.natAbs ∧ (fromOf l = 1 ↔ m < 0) := by
  unfold Lib.itoa at h
  split at h
  · rename_i h0
    subst h
    unfold fromOf
    rw [List.head?_cons, if_pos rfl]
    exact ⟨rfl, by omega⟩
  · rename_i h0
    subst h
    have e : m.toNat = m.natAbs := by omega
    have hf : fromOf (Lib.decDigits m.toNat) = 0 := by
      unfold fromOf
      cases hd : Lib.decDigits m.toNat with
      | nil => rfl
      | cons c r =>
        have := decDigits_all m.toNat c (by rw [hd]; exact List.mem_cons_self)
        rw [List.head?_cons, if_neg]
        intro e; injection e with e; subst e; revert this; decide
    rw [hf, e]
    exact ⟨rfl, by omega⟩
theorem fromOf_le (l : List UInt8) : fromOf l ≤ 1 ∧ fromOf l ≤ l.length := by
  unfold fromOf
  cases l with
  | nil => simp
  | cons c r => rw [List.head?_cons, List.length_cons]; by_cases h : some c = some (45 : UInt8)
                · rw [if_pos h]; omega
                · rw [if_neg h]; omega
theorem none_bad {l : List UInt8} {k : Nat} (h0 : fromOf l ≤ k) (hk : k < l.length) (hc : ¬ (48 ≤ (l[k]).toNat ∧ (l[k]).toNat ≤ 57)) : ∀ m, I64 m → Lib.itoa m ≠ l := by
  intro m _ e
  have h1 := (itoa_parts e).1
  refine hc (decDigits_all m.natAbs _ ?_)
  rw [← h1, List.mem_iff_getElem]
  refine ⟨k - fromOf l, by rw [List.length_drop]; omega, ?_⟩
  rw [List.getElem_drop]
  congr 1; omega
theorem none_big {l : List UInt8} {k : Nat} (h0 : fromOf l ≤ k) (hk : k < l.length) (hc : 922337203685477580 < val ((l.drop (fromOf l)).take (k - fromOf l))) : ∀ m, I64 m → Lib.itoa m ≠ l := by
  intro m hm e
  have h1 := (itoa_parts e).1
  have h2 := val_more ((l.drop (fromOf l)).take (k - fromOf l)) ((l.drop (fromOf l)).drop (k - fromOf l)) (by
    intro e; have := congrArg List.length e; rw [List.length_drop, List.length_drop, List.length_nil] at this; omega)
  rw [List.take_append_drop, h1, val_decDigits] at h2
  rw [h1] at hc
  unfold I64 at hm
  omega
theorem none_len {l : List UInt8} (h : l.length = fromOf l ∨ 20 < l.length) : ∀ m, I64 m → Lib.itoa m ≠ l := by
  intro m hm e
  have h1 := (itoa_parts e).1
  have h2 := itoa_len hm
  rw [e] at h2
  rcases h with h | h
  · rw [← h, List.drop_length] at h1
    exact decDigits_ne _ h1.symm
  · omega
theorem itoa_is {l : List UInt8} {m : Int} (h : Lib.itoa m = l) : m = sgd (decide (fromOf l = 1)) (val (l.drop (fromOf l)) : Int) := by
  obtain ⟨h1, h2⟩ := itoa_parts h
  rw [h1, val_decDigits]
  by_cases h3 : m < 0
  · rw [decide_eq_true (h2.2 h3), sgd_t]; omega
  · rw [decide_eq_false (fun e => h3 (h2.1 e)), sgd_f]; omega
theorem none_fit {l : List UInt8} (h : ¬ I64 (sgd (decide (fromOf l = 1)) (val (l.drop (fromOf l)) : Int))) : ∀ m, I64 m → Lib.itoa m ≠ l := by
  intro m hm e; rw [← itoa_is e] at h; exact h hm
theorem none_ne {l : List UInt8} (h : Lib.itoa (sgd (decide (fromOf l = 1)) (val (l.drop (fromOf l)) : Int)) ≠ l) : ∀ m, I64 m → Lib.itoa m ≠ l := by
  intro m hm e; rw [← itoa_is e] at h; exact h e
theorem val_next {l : List UInt8} {k : Nat} (h0 : fromOf l ≤ k) (hk : k < l.length) : val ((l.drop (fromOf l)).take (k + 1 - fromOf l)) = val ((l.drop (fromOf l)).take (k - fromOf l)) * 10 + ((l[k]).toNat - 48) := by
  rw [show k + 1 - fromOf l = (k - fromOf l) + 1 by omega, List.take_succ_eq_append_getElem (by rw [List.length_drop]; omega), val_snoc, List.getElem_drop]
  congr 3
  congr 1
  omega
theorem byte_at (s : ByteArray) (k : Nat) (h : k < s.size) : s[k] = s.data.toList[k]'(by rw [← len_list]; exact h) := by
  rw [Array.getElem_toList]; rfl

end Go.Proofs.Ytgkabngpekokaaa.NumC
