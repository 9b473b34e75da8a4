/-
  Contracts of package num: Dec, Parse. Of the world: the library's table and its two errors read as they are laid.
-/
import Derived.Test.YtbgjdfghcnblcaaGreatDoorMNum
import Derived.Test.YtbgjdfghcnblcaaGreatDoorMNumB
import Derived.Test.YtbgjdfghcnblcaaGreatDoorMNumR
import Derived.Test.YtbgjdfghcnblcaaGreatDoorMAddr
import Derived.Deep.DeepFit
import Derived.WalkSmall
import Derived.Lib.AppendIntMem
import Derived.Lib.AtoiErrMem
import Derived.Lib.Strings
import Derived.WideShapes
namespace Go.Proofs.YtbgjdfghcnblcaaGreatDoor.NumC
set_option linter.unusedVariables false
open Go.RowKit

/-- What the library's own variables hold: the table of the powers of ten, both errors. -/
structure LibIs (w : World) : Prop where
  tab : Lib.TabIs Tryz.prog w "internal/strconv.uint64pow10" .u64 Lib.pow10Tab
  syn : ∃ t p, w.var? Tryz.prog "strconv.ErrSyntax" = some #[.iface t p]
  ran : ∃ t p, w.var? Tryz.prog "strconv.ErrRange" = some #[.iface t p]
theorem gTab : Tryz.prog.globalNamed "internal/strconv.uint64pow10" = some 2 := by kernel_rfl
theorem gSyn : Tryz.prog.globalNamed "strconv.ErrSyntax" = some 6 := by kernel_rfl
theorem gRan : Tryz.prog.globalNamed "strconv.ErrRange" = some 7 := by kernel_rfl
theorem var?_size {P : Program} {w : World} {n : String} {g : Nat} {cs : Array Value} (hg : P.globalNamed n = some g) (hv : w.var? P n = some cs) : g < w.heap.size := by
  unfold World.var? at hv
  rw [hg] at hv
  simp only [Option.bind_some] at hv
  rcases Nat.lt_or_ge g w.heap.size with h | h
  · exact h
  · rw [Array.getElem?_eq_none h] at hv; cases hv
theorem LibIs.below {w w' : World} (h : LibIs w) (hb : Below w.heap.size w w') : LibIs w' := by
  obtain ⟨h1, ⟨t2, p2, h2⟩, ⟨t3, p3, h3⟩⟩ := h
  exact ⟨var?_below hb gTab (var?_size gTab h1) h1, ⟨t2, p2, var?_below hb gSyn (var?_size gSyn h2) h2⟩, ⟨t3, p3, var?_below hb gRan (var?_size gRan h3) h3⟩⟩
theorem rets {s s' : List UInt8} (h : s = s') : Ending.returned (.string ⟨s.toArray⟩) = .returned (.string ⟨s'.toArray⟩) := by subst h; rfl

set_option maxHeartbeats 400000 in
theorem dec (a : Int) (w : World) (ha : I64 a) (hl : LibIs w) :
    Calls Tryz.prog 60 #[.int .i64 a] w fun e w' => e = .returned (.string ⟨(Lib.itoa a).toArray⟩) ∧ Below w.heap.size w w' := by
  go_enter Tryz.func60, Tryz.ntmps60
  go_wp2_with fail
  refine (Tryz.strconv_FormatInt_10 _ ha.1 ha.2 _ hl.tab).mono ?_
  rintro e w' ⟨rfl, k, os, rfl⟩
  go_wp2
  go_ret
  exact ⟨rfl, Lib.below_grow _ _ (Nat.le_refl _) _ _⟩

theorem len_list (s : ByteArray) : s.size = s.data.toList.length := by unfold ByteArray.size; exact Array.length_toList.symm

set_option maxHeartbeats 1000000 in
theorem parse (s : ByteArray) (w : World) (hl : LibIs w) :
    Calls Tryz.prog 96 #[.string s] w fun e w' => e = .returned (.tuple #[.int .i64 (parseN s.data.toList), .bool (parseB s.data.toList)]) ∧ Below w.heap.size w w' := by
  by_cases h : 20 < s.size
  · have E : Hid (parseN s.data.toList = 0 ∧ parseB s.data.toList = false) := Lib.hid (parse_none fun m hm e => by
      have := (itoa_len hm).2; rw [e, ← len_list] at this; omega)
    go_enter Tryz.func96, Tryz.ntmps96
    go_wp2
    go_ret2
    exact ⟨ret2 E.out.1.symm E.out.2.symm, Below.refl _ _⟩
  · have hle : s.size ≤ 20 := by omega
    clear h
    rcases ha : Lib.atoiAll s.data.toList with v | _ | _
    · have H : Hid (Lib.parseIntB 64 s.data.toList = .ok v) := Lib.hid (by rw [Lib.parseIntB_64, ha])
      have hi := atoi_i64 ha
      by_cases he : Lib.itoa v = s.data.toList
      · have E := Lib.hid (parse_some hi he)
        have HE : (Lib.itoa v == s.toList) = true := by rw [Lib.toList_data, he]; exact beq_self_eq_true _
        clear ha he
        go_enter Tryz.func96, Tryz.ntmps96
        go_wp2_with fail
        refine (Tryz.strconv_ParseInt_10_at64_ok _ (by omega) _ H.out _).mono ?_
        rintro e w1 ⟨rfl, hw1⟩
        have hb1 : Below w.heap.size w w1 := by
          rcases hw1 with rfl | ⟨t, rfl⟩
          · exact Below.refl _ _
          · exact Lib.bytesWorld_below _ _ _
        have hl1 := hl.below hb1
        clear hw1
        go_wp2_with fail
        refine (dec _ _ hi hl1).mono ?_
        rintro e w2 ⟨rfl, hb2⟩
        go_wp2
        go_ret2
        exact ⟨ret2 E.out.1.symm E.out.2.symm, hb1.trans (hb2.mono hb1.size)⟩
      · have E : Hid (parseN s.data.toList = 0 ∧ parseB s.data.toList = false) := Lib.hid (by
          unfold parseN parseB; rw [ha]; simp only; rw [if_neg he, decide_eq_false he]; exact ⟨rfl, rfl⟩)
        have HE : (Lib.itoa v == s.toList) = false := by rw [Lib.toList_data]; exact beq_eq_false_iff_ne.2 he
        clear ha he
        go_enter Tryz.func96, Tryz.ntmps96
        go_wp2_with fail
        refine (Tryz.strconv_ParseInt_10_at64_ok _ (by omega) _ H.out _).mono ?_
        rintro e w1 ⟨rfl, hw1⟩
        have hb1 : Below w.heap.size w w1 := by
          rcases hw1 with rfl | ⟨t, rfl⟩
          · exact Below.refl _ _
          · exact Lib.bytesWorld_below _ _ _
        have hl1 := hl.below hb1
        clear hw1
        go_wp2_with fail
        refine (dec _ _ hi hl1).mono ?_
        rintro e w2 ⟨rfl, hb2⟩
        go_wp2
        go_ret2
        exact ⟨ret2 E.out.1.symm E.out.2.symm, hb1.trans (hb2.mono hb1.size)⟩
    · have H := Lib.hid ((Lib.parseIntB_64 s.data.toList).trans ha)
      have E : Hid (parseN s.data.toList = 0 ∧ parseB s.data.toList = false) := Lib.hid (by
        unfold parseN parseB; rw [ha]; exact ⟨rfl, rfl⟩)
      clear ha
      obtain ⟨tp, p, hv⟩ := hl.syn
      have HV := Lib.hid hv; clear hv
      go_enter Tryz.func96, Tryz.ntmps96
      go_wp2_with fail
      refine (Any.strconv_ParseInt_10_at64_syntax_var Tryz.laysC174 _ (by omega) H.out _ _ _ HV.out).mono ?_
      rintro e w1 ⟨N, rfl, hN, hN2, hb1⟩
      clear hN2
      go_wp2
      go_ret2
      exact ⟨ret2 E.out.1.symm E.out.2.symm, hb1⟩
    · have H := Lib.hid ((Lib.parseIntB_64 s.data.toList).trans ha)
      have E : Hid (parseN s.data.toList = 0 ∧ parseB s.data.toList = false) := Lib.hid (by
        unfold parseN parseB; rw [ha]; exact ⟨rfl, rfl⟩)
      clear ha
      obtain ⟨tp, p, hv⟩ := hl.ran
      have HV := Lib.hid hv; clear hv
      go_enter Tryz.func96, Tryz.ntmps96
      go_wp2_with fail
      refine (Tryz.strconv_ParseInt_10_at64_range_var _ (by omega) H.out _ _ _ HV.out).mono ?_
      rintro e w1 ⟨N, rfl, hN, hN2, hb1⟩
      clear hN2
      go_wp2
      go_ret2
      exact ⟨ret2 E.out.1.symm E.out.2.symm, hb1⟩
end Go.Proofs.YtbgjdfghcnblcaaGreatDoor.NumC

/-
  Contracts of the reference's numbers: digits, Dec, Parse.
-/
namespace Go.Proofs.YtbgjdfghcnblcaaGreatDoor.NumC
set_option linter.unusedVariables false
open Go.RowKit

theorem ten_fin : ∀ i : Fin 10, (([48, 49, 50, 51, 52, 53, 54, 55, 56, 57] : List UInt8).drop i.val).take (i.val + 1 - i.val) = [UInt8.ofNat (48 + i.val)] := by decide
theorem piece (d : Nat) (h : d < 10) (l : List UInt8) : (({ data := #[48, 49, 50, 51, 52, 53, 54, 55, 56, 57] } : ByteArray).extract d (d + 1) ++ (⟨l.toArray⟩ : ByteArray)) = ⟨(UInt8.ofNat (48 + d) :: l).toArray⟩ := by
  apply WideShapes.bytes_inj
  rw [ByteArray.data_append, Array.toList_append, Lib.extract_data]
  have := ten_fin ⟨d, h⟩
  simp only at this
  rw [show ([48, 49, 50, 51, 52, 53, 54, 55, 56, 57] : List UInt8) = ({ data := #[48, 49, 50, 51, 52, 53, 54, 55, 56, 57] } : ByteArray).data.toList from rfl] at this
  rw [this]; rfl
theorem cons_str (c : UInt8) (l : List UInt8) : ((⟨#[c]⟩ : ByteArray) ++ (⟨l.toArray⟩ : ByteArray)) = ⟨(c :: l).toArray⟩ := by
  apply WideShapes.bytes_inj
  rw [ByteArray.data_append, Array.toList_append]; rfl
theorem rets' {s : ByteArray} {l : List UInt8} (h : s = ⟨l.toArray⟩) : Ending.returned (.string s) = .returned (.string ⟨l.toArray⟩) := by rw [h]
theorem vals' {s : ByteArray} {l : List UInt8} (h : s = ⟨l.toArray⟩) : Value.string s = .string ⟨l.toArray⟩ := by rw [h]
theorem digits_last {u v : Nat} {l : List UInt8} (h : Lib.decDigits u = Lib.decDigits v ++ l) (hv : v < 10) : Lib.decDigits u = UInt8.ofNat (48 + v % 10) :: l := by
  rw [h, Lib.decDigits_one hv, Nat.mod_eq_of_lt hv]; rfl
theorem digits_next {u v : Nat} {l : List UInt8} (h : Lib.decDigits u = Lib.decDigits v ++ l) (hv : ¬ v < 10) : Lib.decDigits u = Lib.decDigits (v / 10) ++ (UInt8.ofNat (48 + v % 10) :: l) := by
  rw [h, Lib.decDigits, dif_neg hv, List.append_assoc]; rfl

set_option maxRecDepth 100000 in
set_option maxHeartbeats 400000 in
theorem rdigits (u : Nat) (w : World) (hu : u < 18446744073709551616) :
    Calls Tryz.prog 67 #[.int .u64 u] w fun e w' => e = .returned (.string ⟨(Lib.decDigits u).toArray⟩) ∧ w = w' := by
  go_enter Tryz.func67, Tryz.ntmps67
  go_wp2
  go_loop [0, 3, 4] (fun p s i => ∃ v k : Nat, ∃ l : List UInt8, k ≤ 20 ∧ v < 18446744073709551616 ∧ l.length ≤ 20 ∧ p = .int .u64 v ∧ s = .string ⟨l.toArray⟩ ∧ i = .int .i64 k ∧ Hid (l.length = k ∧ v < 10 ^ (20 - k) ∧ (k = 0 ∨ 1 ≤ v) ∧ Lib.decDigits u = Lib.decDigits v ++ l)) (fun _ _ i => 20 - (intOf i).toNat)
  case atStart => exact ⟨u, 0, [], by omega, hu, by simp, rfl, rfl, rfl, Lib.hid ⟨rfl, by omega, Or.inl rfl, by simp⟩⟩
  case round =>
    obtain ⟨v, k, l, hk, hv, hll, rfl, rfl, rfl, HH⟩ := hrel
    by_cases hk20 : k = 20
    · exfalso
      obtain ⟨-, h2, h3, -⟩ := HH.out
      subst hk20
      simp at h2; omega
    · have hk2 : k < 20 := by omega
      clear hk20
      by_cases hd : v < 10
      · have h0 : ((v : Int) / 10 == 0) = true := by simp; omega
        have E := Lib.hid (digits_last HH.out.2.2.2 hd)
        have P := Lib.hid (piece (v % 10) (by omega) l)
        go_wp2
        go_ret
        exact ⟨rets' (by rw [P.out, E.out]), rfl⟩
      · have h0 : ((v : Int) / 10 == 0) = false := by simp; omega
        have E := Lib.hid (digits_next HH.out.2.2.2 hd)
        have P := Lib.hid (piece (v % 10) (by omega) l)
        have HQ : Hid ((UInt8.ofNat (48 + v % 10) :: l).length = k + 1 ∧ v / 10 < 10 ^ (20 - (k + 1)) ∧ (k + 1 = 0 ∨ 1 ≤ v / 10) ∧ Lib.decDigits u = Lib.decDigits (v / 10) ++ (UInt8.ofNat (48 + v % 10) :: l)) := Lib.hid (by
          obtain ⟨h1, h2, h3, -⟩ := HH.out
          refine ⟨by simp [h1], ?_, Or.inr (by omega), E.out⟩
          rw [show 20 - k = 20 - (k + 1) + 1 by omega, Nat.pow_succ] at h2
          omega)
        go_wp2
        go_round
        case rel => exact ⟨v / 10, k + 1, _, by omega, by omega, (by rw [HQ.out.1]; omega), by go_num, vals' P.out, by go_num, HQ⟩
        case measure => simp [intOf]; omega

theorem siz_nat (a : Int) : siz a = ((siz a).toNat : Int) := by have := siz_nonneg a; omega

set_option maxHeartbeats 400000 in
theorem rdec (a : Int) (w : World) (ha : I64 a) :
    Calls Tryz.prog 44 #[.int .i64 a] w fun e w' => e = .returned (.string ⟨(Lib.itoa a).toArray⟩) ∧ w = w' := by
  have Sa := siz_bd ha
  obtain ⟨n, hn⟩ : ∃ n : Nat, siz a = n := ⟨(siz a).toNat, siz_nat a⟩
  rw [hn] at Sa
  by_cases h : a < 0
  · have E : Hid (Lib.itoa a = 45 :: Lib.decDigits n) := Lib.hid (by unfold Lib.itoa; rw [if_pos h]; congr 2; rw [siz_neg h] at hn; omega)
    have N := Lib.hid hn; clear hn
    have L : (Lib.decDigits n).length ≤ 20 := by rw [Lib.decDigits_length]; exact nDigits_le (by omega) (by omega)
    go_enter Tryz.func44, Tryz.ntmps44
    go_wp2_with fail
    refine (rwhole _ _ ha).mono ?_; rw [N.out]; rintro e w' ⟨rfl, rfl⟩
    go_wp2_with fail
    refine (rdigits _ _ (by omega)).mono ?_; rintro e w' ⟨rfl, rfl⟩
    go_wp2
    go_ret
    exact ⟨rets' (by rw [E.out]; exact cons_str _ _), rfl⟩
  · have E : Hid (Lib.itoa a = Lib.decDigits n) := Lib.hid (by unfold Lib.itoa; rw [if_neg h]; congr 1; rw [siz_pos h] at hn; omega)
    have N := Lib.hid hn; clear hn
    go_enter Tryz.func44, Tryz.ntmps44
    go_wp2_with fail
    refine (rwhole _ _ ha).mono ?_; rw [N.out]; rintro e w' ⟨rfl, rfl⟩
    go_wp2_with fail
    refine (rdigits _ _ (by omega)).mono ?_; rintro e w' ⟨rfl, rfl⟩
    go_wp2
    go_ret
    exact ⟨rets E.out.symm, rfl⟩

/-- Where the digits begin. -/
def fromOf (l : List UInt8) : Nat := if l.head? = some 45 then 1 else 0
theorem itoa_parts {l : List UInt8} {m : Int} (h : Lib.itoa m = l) : l.drop (fromOf l) = Lib.decDigits m.natAbs ∧ (fromOf l = 1 ↔ m < 0) := by
  unfold Lib.itoa at h
  split at h
  · rename_i h0
    subst h
    unfold fromOf
    rw [List.head?_cons, if_pos rfl]
    exact ⟨rfl, by omega⟩
  · rename_i h0
    subst h
    have e : m.toNat = m.natAbs := by omega
    have hf : fromOf (Lib.decDigits m.toNat) = 0 := by
      unfold fromOf
      cases hd : Lib.decDigits m.toNat with
      | nil => rfl
      | cons c r =>
        have := decDigits_all m.toNat c (by rw [hd]; exact List.mem_cons_self)
        rw [List.head?_cons, if_neg]
        intro e; injection e with e; subst e; revert this; decide
    rw [hf, e]
    exact ⟨rfl, by omega⟩
theorem fromOf_le (l : List UInt8) : fromOf l ≤ 1 ∧ fromOf l ≤ l.length := by
  unfold fromOf
  cases l with
  | nil => simp
  | cons c r => rw [List.head?_cons, List.length_cons]; by_cases h : some c = some (45 : UInt8)
                · rw [if_pos h]; omega
                · rw [if_neg h]; omega
theorem none_bad {l : List UInt8} {k : Nat} (h0 : fromOf l ≤ k) (hk : k < l.length) (hc : ¬ (48 ≤ (l[k]).toNat ∧ (l[k]).toNat ≤ 57)) : ∀ m, I64 m → Lib.itoa m ≠ l := by
  intro m _ e
  have h1 := (itoa_parts e).1
  refine hc (decDigits_all m.natAbs _ ?_)
  rw [← h1, List.mem_iff_getElem]
  refine ⟨k - fromOf l, by rw [List.length_drop]; omega, ?_⟩
  rw [List.getElem_drop]
  congr 1; omega
theorem none_big {l : List UInt8} {k : Nat} (h0 : fromOf l ≤ k) (hk : k < l.length) (hc : 922337203685477580 < val ((l.drop (fromOf l)).take (k - fromOf l))) : ∀ m, I64 m → Lib.itoa m ≠ l := by
  intro m hm e
  have h1 := (itoa_parts e).1
  have h2 := val_more ((l.drop (fromOf l)).take (k - fromOf l)) ((l.drop (fromOf l)).drop (k - fromOf l)) (by
    intro e; have := congrArg List.length e; rw [List.length_drop, List.length_drop, List.length_nil] at this; omega)
  rw [List.take_append_drop, h1, val_decDigits] at h2
  rw [h1] at hc
  unfold I64 at hm
  omega
theorem none_len {l : List UInt8} (h : l.length = fromOf l ∨ 20 < l.length) : ∀ m, I64 m → Lib.itoa m ≠ l := by
  intro m hm e
  have h1 := (itoa_parts e).1
  have h2 := itoa_len hm
  rw [e] at h2
  rcases h with h | h
  · rw [← h, List.drop_length] at h1
    exact decDigits_ne _ h1.symm
  · omega
theorem itoa_is {l : List UInt8} {m : Int} (h : Lib.itoa m = l) : m = sgd (decide (fromOf l = 1)) (val (l.drop (fromOf l)) : Int) := by
  obtain ⟨h1, h2⟩ := itoa_parts h
  rw [h1, val_decDigits]
  by_cases h3 : m < 0
  · rw [decide_eq_true (h2.2 h3), sgd_t]; omega
  · rw [decide_eq_false (fun e => h3 (h2.1 e)), sgd_f]; omega
theorem none_fit {l : List UInt8} (h : ¬ I64 (sgd (decide (fromOf l = 1)) (val (l.drop (fromOf l)) : Int))) : ∀ m, I64 m → Lib.itoa m ≠ l := by
  intro m hm e; rw [← itoa_is e] at h; exact h hm
theorem none_ne {l : List UInt8} (h : Lib.itoa (sgd (decide (fromOf l = 1)) (val (l.drop (fromOf l)) : Int)) ≠ l) : ∀ m, I64 m → Lib.itoa m ≠ l := by
  intro m hm e; rw [← itoa_is e] at h; exact h e
theorem val_next {l : List UInt8} {k : Nat} (h0 : fromOf l ≤ k) (hk : k < l.length) : val ((l.drop (fromOf l)).take (k + 1 - fromOf l)) = val ((l.drop (fromOf l)).take (k - fromOf l)) * 10 + ((l[k]).toNat - 48) := by
  rw [show k + 1 - fromOf l = (k - fromOf l) + 1 by omega, List.take_succ_eq_append_getElem (by rw [List.length_drop]; omega), val_snoc, List.getElem_drop]
  congr 3
  congr 1
  omega
theorem byte_at (s : ByteArray) (k : Nat) (h : k < s.size) : s[k] = s.data.toList[k]'(by rw [← len_list]; exact h) := by
  rw [Array.getElem_toList]; rfl

end Go.Proofs.YtbgjdfghcnblcaaGreatDoor.NumC

/-
  Contracts of package addr and of its reference: columns' names, Made, Mod. Nothing is assumed but that the arguments are numbers of their kinds.
-/
namespace Go.Proofs.YtbgjdfghcnblcaaGreatDoor.AddrC
set_option linter.unusedVariables false
open Go.RowKit Go.Proofs.YtbgjdfghcnblcaaGreatDoor.NumC

def abc : ByteArray := { data := #[65, 66, 67, 68, 69, 70, 71, 72, 73, 74, 75, 76, 77, 78, 79, 80, 81, 82, 83, 84, 85, 86, 87, 88, 89, 90] }
theorem abc_fin : ∀ i : Fin 26, (([65, 66, 67, 68, 69, 70, 71, 72, 73, 74, 75, 76, 77, 78, 79, 80, 81, 82, 83, 84, 85, 86, 87, 88, 89, 90] : List UInt8).drop i.val).take (i.val + 1 - i.val) = [UInt8.ofNat (65 + i.val)] := by decide
theorem letter (d : Nat) (h : d < 26) : ({ data := #[65, 66, 67, 68, 69, 70, 71, 72, 73, 74, 75, 76, 77, 78, 79, 80, 81, 82, 83, 84, 85, 86, 87, 88, 89, 90] } : ByteArray).extract d (d + 1) = ⟨[UInt8.ofNat (65 + d)].toArray⟩ := by
  apply WideShapes.bytes_inj
  rw [Lib.extract_data]
  exact abc_fin ⟨d, h⟩

set_option maxHeartbeats 400000 in
theorem rcolumn (c : Int) (w : World) (h0 : 1 ≤ c) (h1 : c ≤ 50) :
    Calls Tryz.prog 69 #[.int .i64 c] w fun e w' => e = .returned (.string ⟨(colL c).toArray⟩) ∧ w = w' := by
  by_cases h : c ≤ 26
  · obtain ⟨d, rfl⟩ : ∃ d : Nat, c = d + 1 := ⟨(c - 1).toNat, by omega⟩
    have E : Hid (colL (d + 1) = [UInt8.ofNat (65 + d)]) := Lib.hid (by unfold colL; rw [if_pos h, show 64 + ((d : Int) + 1).toNat = 65 + d from by omega])
    have P := Lib.hid (letter d (by omega))
    have hd : d < 26 := by omega
    clear h h0 h1
    go_enter Tryz.func69, Tryz.ntmps69
    go_wp2
    go_ret
    exact ⟨rets' (by rw [E.out]; exact P.out), rfl⟩
  · obtain ⟨d, rfl⟩ : ∃ d : Nat, c = d + 27 := ⟨(c - 27).toNat, by omega⟩
    have E : Hid (colL (d + 27) = [65, UInt8.ofNat (65 + d)]) := Lib.hid (by unfold colL; rw [if_neg h, show 38 + ((d : Int) + 27).toNat = 65 + d from by omega])
    have P := Lib.hid (letter d (by omega))
    have hd : d < 24 := by omega
    clear h h0 h1
    go_enter Tryz.func69, Tryz.ntmps69
    go_wp2
    go_ret
    exact ⟨rets' (by rw [E.out, P.out]; exact cons_str _ _), rfl⟩

set_option maxHeartbeats 400000 in
theorem columnName1 (c : Int) (w : World) (h0 : 1 ≤ c) (h : c ≤ 26) :
    Calls Tryz.prog 59 #[.int .i64 c] w fun e w' => e = .returned (.string ⟨(colL c).toArray⟩) ∧ w = w' := by
  obtain ⟨d, rfl⟩ : ∃ d : Nat, c = d + 1 := ⟨(c - 1).toNat, by omega⟩
  have E : Hid (colL (d + 1) = [UInt8.ofNat (65 + d)]) := Lib.hid (by unfold colL; rw [if_pos h, show 64 + ((d : Int) + 1).toNat = 65 + d from by omega])
  have hd : d < 26 := by omega
  have P := Lib.hid (letter d (by omega))
  have q1 : (d : Int) / 26 = 0 := by omega
  have q2 : (d : Int) % 26 = d := by omega
  clear h h0
  go_enter Tryz.func59, Tryz.ntmps59
  go_wp2_with fail
  go_ret
  exact ⟨rets' (by rw [E.out]; exact P.out), rfl⟩

set_option maxHeartbeats 400000 in
theorem columnName (c : Int) (w : World) (h0 : 1 ≤ c) (h1 : c ≤ 50) :
    Calls Tryz.prog 59 #[.int .i64 c] w fun e w' => e = .returned (.string ⟨(colL c).toArray⟩) ∧ w = w' := by
  by_cases h : c ≤ 26
  · exact columnName1 c w h0 h
  · obtain ⟨d, rfl⟩ : ∃ d : Nat, c = d + 27 := ⟨(c - 27).toNat, by omega⟩
    have E : Hid (colL (d + 27) = [65, UInt8.ofNat (65 + d)]) := Lib.hid (by unfold colL; rw [if_neg h, show 38 + ((d : Int) + 27).toNat = 65 + d from by omega])
    have E1 : Hid (colL 1 = [65]) := Lib.hid rfl
    have hd : d < 24 := by omega
    have P := Lib.hid (letter d (by omega))
    clear h h0 h1
    have q1 : ((d : Int) + 27 - 1) / 26 = 1 := by omega
    have q2 : ((d : Int) + 27 - 1) % 26 = d := by omega
    have q3 : (d + 27 - 1) % 26 = d := by omega
    go_enter Tryz.func59, Tryz.ntmps59
    go_wp2_with fail
    refine (columnName1 1 _ (by omega) (by omega)).mono ?_; rw [E1.out]; rintro e w' ⟨rfl, rfl⟩
    go_wp2_with fail
    go_ret
    exact ⟨rets' (by rw [E.out, P.out]; exact cons_str _ _), rfl⟩

/-- What Mod answers. -/
def modK (k m : Int) : Int := k.tmod m % m
theorem modK_bd (k : Int) {m : Int} (hm : 0 < m) : 0 ≤ modK k m ∧ modK k m < m := ⟨Int.emod_nonneg _ (by omega), Int.emod_lt_of_pos _ hm⟩

end Go.Proofs.YtbgjdfghcnblcaaGreatDoor.AddrC
