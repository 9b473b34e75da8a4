/-
  Contracts of package num: Dec, Parse. Of the world: the library's table and its two errors read as they are laid.
-/
import Derived.Test.YticehalcnbjccaaGreatDoorRNumN
import Derived.Test.YticehalcnbjccaaGreatDoorProg
import Derived.Test.YticehalcnbjccaaGreatDoorRNumM
import Derived.Test.YticehalcnbjccaaGreatDoorRShelf
import Derived.Test.YticehalcnbjccaaGreatDoorRNumR
import Derived.Test.YticehalcnbjccaaGreatDoorRAddrA
import Derived.WalkKit
import Derived.WalkSpells
import Derived.WalkLawsBesides
import Derived.Deep.QuietTactic
import Derived.BigQuiet
import Derived.Lib.Hide
import Derived.Deep.DeepFit
import Derived.WalkSmall
import Derived.Lib.AppendIntMem
import Derived.Lib.AtoiErrMem
import Derived.Lib.Strings
import Derived.WideShapes
namespace Go.Proofs.YticehalcnbjccaaGreatDoor.NumC
set_option maxRecDepth 100000
set_option maxHeartbeats 8000000
set_option linter.unusedVariables false
open Go.RowKit
open Tryz
open Lib (hid)
structure LibIs (w : World) : Prop where
 tab : Lib.TabIs prog w "internal/strconv.uint64pow10" .u64 Lib.pow10Tab
 syn : ∃ t p, w.var? prog "strconv.ErrSyntax" = some #[.iface t p]
 ran : ∃ t p, w.var? prog "strconv.ErrRange" = some #[.iface t p]
theorem gTab : prog.globalNamed "internal/strconv.uint64pow10" = some 4 := by kernel_rfl
theorem gSyn : prog.globalNamed "strconv.ErrSyntax" = some 2 := by kernel_rfl
theorem gRan : prog.globalNamed "strconv.ErrRange" = some 3 := by kernel_rfl
theorem var?_size {P : Program} {w : World} {n : String} {g : Nat} {cs : Array Value} (hg : P.globalNamed n = some g) (hv : w.var? P n = some cs) : g < w.heap.size := by
 unfold World.var? at hv
 rw [hg] at hv
 simp only [Option.bind_some] at hv
 rcases Nat.lt_or_ge g w.heap.size with h | h
 · exact h
 · rw [Array.getElem?_eq_none h] at hv; cases hv
theorem LibIs.below {w w' : World} (h : LibIs w) (hb : Below w.heap.size w w') : LibIs w' := by
 obtain ⟨h1, ⟨t2, p2, h2⟩, ⟨t3, p3, h3⟩⟩ := h
 exact ⟨var?_below hb gTab (var?_size gTab h1) h1, ⟨t2, p2, var?_below hb gSyn (var?_size gSyn h2) h2⟩, ⟨t3, p3, var?_below hb gRan (var?_size gRan h3) h3⟩⟩
theorem rets {s s' : List UInt8} (h : s = s') : Ending.returned (.string ⟨s.toArray⟩) = .returned (.string ⟨s'.toArray⟩) := by subst h; rfl
theorem dec (a : Int) (w : World) (ha : I64 a) (hl : LibIs w) :
   Calls prog 74 #[.int .i64 a] w fun e w' => e = .returned (.string ⟨(Lib.itoa a).toArray⟩) ∧ Below w.heap.size w w' := by
 go_enter func74, ntmps74
 go_wp2_with fail
 refine (Tryz.strconv_FormatInt_10 _ ha.1 ha.2 _ hl.tab).mono ?_
 rintro e w' ⟨rfl, k, os, rfl⟩
 go_wp2
 go_ret
 exact ⟨rfl, Lib.below_grow _ _ (Nat.le_refl _) _ _⟩
theorem len_list (s : ByteArray) : s.size = s.data.toList.length := by unfold ByteArray.size; exact Array.length_toList.symm
theorem parse (s : ByteArray) (w : World) (hl : LibIs w) :
   Calls prog 44 #[.string s] w fun e w' => e = .returned (.tuple #[.int .i64 (parseN s.data.toList), .bool (parseB s.data.toList)]) ∧ Below w.heap.size w w' := by
 by_cases h : 20 < s.size
 · have E : Hid (parseN s.data.toList = 0 ∧ parseB s.data.toList = false) := hid (parse_none fun m hm e => by
     have := (itoa_len hm).2; rw [e, ← len_list] at this; omega)
   go_enter func44, ntmps44
   go_wp2
   go_ret2
   exact ⟨ret2 E.out.1.symm E.out.2.symm, Below.refl _ _⟩
 · have hle : s.size ≤ 20 := by omega
   clear h
   rcases ha : Lib.atoiAll s.data.toList with v | _ | _
   · have H : Hid (Lib.parseIntB 64 s.data.toList = .ok v) := hid (by rw [Lib.parseIntB_64, ha])
     have hi := atoi_i64 ha
     by_cases he : Lib.itoa v = s.data.toList
     · have E := hid (parse_some hi he)
       have HE : (Lib.itoa v == s.toList) = true := by rw [Lib.toList_data, he]; exact beq_self_eq_true _
       clear ha he
       go_enter func44, ntmps44
       go_wp2_with fail
       refine (Tryz.strconv_ParseInt_10_at64_ok _ (by omega) _ H.out _).mono ?_
       rintro e w1 ⟨rfl, hw1⟩
       have hb1 : Below w.heap.size w w1 := by
         rcases hw1 with rfl | ⟨t, rfl⟩
         · exact Below.refl _ _
         · exact Lib.bytesWorld_below _ _ _
       have hl1 := hl.below hb1
       clear hw1
       go_wp2_with fail
       refine (dec _ _ hi hl1).mono ?_
       rintro e w2 ⟨rfl, hb2⟩
       go_wp2
       go_ret2
       exact ⟨ret2 E.out.1.symm E.out.2.symm, hb1.trans (hb2.mono hb1.size)⟩
     · have E : Hid (parseN s.data.toList = 0 ∧ parseB s.data.toList = false) := hid (by
         unfold parseN parseB; rw [ha]; simp only; rw [if_neg he, decide_eq_false he]; exact ⟨rfl, rfl⟩)
       have HE : (Lib.itoa v == s.toList) = false := by rw [Lib.toList_data]; exact beq_eq_false_iff_ne.2 he
       clear ha he
       go_enter func44, ntmps44
       go_wp2_with fail
       refine (Tryz.strconv_ParseInt_10_at64_ok _ (by omega) _ H.out _).mono ?_
       rintro e w1 ⟨rfl, hw1⟩
       have hb1 : Below w.heap.size w w1 := by
         rcases hw1 with rfl | ⟨t, rfl⟩
         · exact Below.refl _ _
         · exact Lib.bytesWorld_below _ _ _
       have hl1 := hl.below hb1
       clear hw1
       go_wp2_with fail
       refine (dec _ _ hi hl1).mono ?_
       rintro e w2 ⟨rfl, hb2⟩
       go_wp2
       go_ret2
       exact ⟨ret2 E.out.1.symm E.out.2.symm, hb1.trans (hb2.mono hb1.size)⟩
   · have H := hid ((Lib.parseIntB_64 s.data.toList).trans ha)
     have E : Hid (parseN s.data.toList = 0 ∧ parseB s.data.toList = false) := hid (by
       unfold parseN parseB; rw [ha]; exact ⟨rfl, rfl⟩)
     clear ha
     obtain ⟨tp, p, hv⟩ := hl.syn
     have HV := hid hv; clear hv
     go_enter func44, ntmps44
     go_wp2_with fail
     refine (Any.strconv_ParseInt_10_at64_syntax_var Tryz.laysC174 _ (by omega) H.out _ _ _ HV.out).mono ?_
     rintro e w1 ⟨N, rfl, hN, hN2, hb1⟩
     clear hN2
     go_wp2
     go_ret2
     exact ⟨ret2 E.out.1.symm E.out.2.symm, hb1⟩
   · have H := hid ((Lib.parseIntB_64 s.data.toList).trans ha)
     have E : Hid (parseN s.data.toList = 0 ∧ parseB s.data.toList = false) := hid (by
       unfold parseN parseB; rw [ha]; exact ⟨rfl, rfl⟩)
     clear ha
     obtain ⟨tp, p, hv⟩ := hl.ran
     have HV := hid hv; clear hv
     go_enter func44, ntmps44
     go_wp2_with fail
     refine (Tryz.strconv_ParseInt_10_at64_range_var _ (by omega) H.out _ _ _ HV.out).mono ?_
     rintro e w1 ⟨N, rfl, hN, hN2, hb1⟩
     clear hN2
     go_wp2
     go_ret2
     exact ⟨ret2 E.out.1.symm E.out.2.symm, hb1⟩
theorem ten_fin : ∀ i : Fin 10, (([48, 49, 50, 51, 52, 53, 54, 55, 56, 57] : List UInt8).drop i.val).take (i.val + 1 - i.val) = [UInt8.ofNat (48 + i.val)] := by decide
theorem piece (d : Nat) (h : d < 10) (l : List UInt8) : (({ data := #[48, 49, 50, 51, 52, 53, 54, 55, 56, 57] } : ByteArray).extract d (d + 1) ++ (⟨l.toArray⟩ : ByteArray)) = ⟨(UInt8.ofNat (48 + d) :: l).toArray⟩ := by
 apply WideShapes.bytes_inj
 rw [ByteArray.data_append, Array.toList_append, Lib.extract_data]
 have := ten_fin ⟨d, h⟩
 simp only at this
 rw [show ([48, 49, 50, 51, 52, 53, 54, 55, 56, 57] : List UInt8) = ({ data := #[48, 49, 50, 51, 52, 53, 54, 55, 56, 57] } : ByteArray).data.toList from rfl] at this
 rw [this]; rfl
theorem cons_str (c : UInt8) (l : List UInt8) : ((⟨#[c]⟩ : ByteArray) ++ (⟨l.toArray⟩ : ByteArray)) = ⟨(c :: l).toArray⟩ := by
 apply WideShapes.bytes_inj
 rw [ByteArray.data_append, Array.toList_append]; rfl
theorem rets' {s : ByteArray} {l : List UInt8} (h : s = ⟨l.toArray⟩) : Ending.returned (.string s) = .returned (.string ⟨l.toArray⟩) := by rw [h]
theorem vals' {s : ByteArray} {l : List UInt8} (h : s = ⟨l.toArray⟩) : Value.string s = .string ⟨l.toArray⟩ := by rw [h]
theorem digits_last {u v : Nat} {l : List UInt8} (h : Lib.decDigits u = Lib.decDigits v ++ l) (hv : v < 10) : Lib.decDigits u = UInt8.ofNat (48 + v % 10) :: l := by
 rw [h, Lib.decDigits_one hv, Nat.mod_eq_of_lt hv]; rfl
theorem digits_next {u v : Nat} {l : List UInt8} (h : Lib.decDigits u = Lib.decDigits v ++ l) (hv : ¬ v < 10) : Lib.decDigits u = Lib.decDigits (v / 10) ++ (UInt8.ofNat (48 + v % 10) :: l) := by
 rw [h, Lib.decDigits, dif_neg hv, List.append_assoc]; rfl
theorem rdigits (u : Nat) (w : World) (hu : u < 18446744073709551616) :
   Calls prog 57 #[.int .u64 u] w fun e w' => e = .returned (.string ⟨(Lib.decDigits u).toArray⟩) ∧ w = w' := by
 go_enter func57, ntmps57
 go_wp2
 go_loop [0, 3, 4] (fun p s i => ∃ v k : Nat, ∃ l : List UInt8, k ≤ 20 ∧ v < 18446744073709551616 ∧ l.length ≤ 20 ∧ p = .int .u64 v ∧ s = .string ⟨l.toArray⟩ ∧ i = .int .i64 k ∧ Hid (l.length = k ∧ v < 10 ^ (20 - k) ∧ (k = 0 ∨ 1 ≤ v) ∧ Lib.decDigits u = Lib.decDigits v ++ l)) (fun _ _ i => 20 - (intOf i).toNat)
 case atStart => exact ⟨u, 0, [], by omega, hu, by simp, rfl, rfl, rfl, hid ⟨rfl, by omega, Or.inl rfl, by simp⟩⟩
 case round =>
   obtain ⟨v, k, l, hk, hv, hll, rfl, rfl, rfl, HH⟩ := hrel
   by_cases hk20 : k = 20
   · exfalso
     obtain ⟨-, h2, h3, -⟩ := HH.out
     subst hk20
     simp at h2; omega
   · have hk2 : k < 20 := by omega
     clear hk20
     by_cases hd : v < 10
     · have h0 : ((v : Int) / 10 == 0) = true := by simp; omega
       have E := hid (digits_last HH.out.2.2.2 hd)
       have P := hid (piece (v % 10) (by omega) l)
       go_wp2
       go_ret
       exact ⟨rets' (by rw [P.out, E.out]), rfl⟩
     · have h0 : ((v : Int) / 10 == 0) = false := by simp; omega
       have E := hid (digits_next HH.out.2.2.2 hd)
       have P := hid (piece (v % 10) (by omega) l)
       have HQ : Hid ((UInt8.ofNat (48 + v % 10) :: l).length = k + 1 ∧ v / 10 < 10 ^ (20 - (k + 1)) ∧ (k + 1 = 0 ∨ 1 ≤ v / 10) ∧ Lib.decDigits u = Lib.decDigits (v / 10) ++ (UInt8.ofNat (48 + v % 10) :: l)) := hid (by
         obtain ⟨h1, h2, h3, -⟩ := HH.out
         refine ⟨by simp [h1], ?_, Or.inr (by omega), E.out⟩
         rw [show 20 - k = 20 - (k + 1) + 1 by omega, Nat.pow_succ] at h2
         omega)
       go_wp2
       go_round
       case rel => exact ⟨v / 10, k + 1, _, by omega, by omega, (by rw [HQ.out.1]; omega), by go_num, vals' P.out, by go_num, HQ⟩
       case measure => simp [intOf]; omega
theorem siz_nat (a : Int) : siz a = ((siz a).toNat : Int) := by have := siz_nonneg a; omega
theorem rdec (a : Int) (w : World) (ha : I64 a) :
   Calls prog 34 #[.int .i64 a] w fun e w' => e = .returned (.string ⟨(Lib.itoa a).toArray⟩) ∧ w = w' := by
 have Sa := siz_bd ha
 obtain ⟨n, hn⟩ : ∃ n : Nat, siz a = n := ⟨(siz a).toNat, siz_nat a⟩
 rw [hn] at Sa
 by_cases h : a < 0
 · have E : Hid (Lib.itoa a = 45 :: Lib.decDigits n) := hid (by unfold Lib.itoa; rw [if_pos h]; congr 2; rw [siz_neg h] at hn; omega)
   have N := hid hn; clear hn
   have L : (Lib.decDigits n).length ≤ 20 := by rw [Lib.decDigits_length]; exact nDigits_le (by omega) (by omega)
   go_enter func34, ntmps34
   go_wp2_with fail
   refine (rwhole _ _ ha).mono ?_; rw [N.out]; rintro e w' ⟨rfl, rfl⟩
   go_wp2_with fail
   refine (rdigits _ _ (by omega)).mono ?_; rintro e w' ⟨rfl, rfl⟩
   go_wp2
   go_ret
   exact ⟨rets' (by rw [E.out]; exact cons_str _ _), rfl⟩
 · have E : Hid (Lib.itoa a = Lib.decDigits n) := hid (by unfold Lib.itoa; rw [if_neg h]; congr 1; rw [siz_pos h] at hn; omega)
   have N := hid hn; clear hn
   go_enter func34, ntmps34
   go_wp2_with fail
   refine (rwhole _ _ ha).mono ?_; rw [N.out]; rintro e w' ⟨rfl, rfl⟩
   go_wp2_with fail
   refine (rdigits _ _ (by omega)).mono ?_; rintro e w' ⟨rfl, rfl⟩
   go_wp2
   go_ret
   exact ⟨rets E.out.symm, rfl⟩
def fromOf (l : List UInt8) : Nat := if l.head? = some 45 then 1 else 0
theorem itoa_parts {l : List UInt8} {m : Int} (h : Lib.itoa m = l) : l.drop (fromOf l) = Lib.decDigits m.natAbs ∧ (fromOf l = 1 ↔ m < 0) := by
 unfold Lib.itoa at h
 split at h
 · rename_i h0
   subst h
   unfold fromOf
   rw [List.head?_cons, if_pos rfl]
   exact ⟨rfl, by omega⟩
 · rename_i h0
   subst h
   have e : m.toNat = m.natAbs := by omega
   have hf : fromOf (Lib.decDigits m.toNat) = 0 := by
     unfold fromOf
     cases hd : Lib.decDigits m.toNat with
     | nil => rfl
     | cons c r =>
       have := decDigits_all m.toNat c (by rw [hd]; exact List.mem_cons_self)
       rw [List.head?_cons, if_neg]
       intro e; injection e with e; subst e; revert this; decide
   rw [hf, e]
   exact ⟨rfl, by omega⟩
theorem none_bad {l : List UInt8} {k : Nat} (h0 : fromOf l ≤ k) (hk : k < l.length) (hc : ¬ (48 ≤ (l[k]).toNat ∧ (l[k]).toNat ≤ 57)) : ∀ m, I64 m → Lib.itoa m ≠ l := by
 intro m _ e
 have h1 := (itoa_parts e).1
 refine hc (decDigits_all m.natAbs _ ?_)
 rw [← h1, List.mem_iff_getElem]
 refine ⟨k - fromOf l, by rw [List.length_drop]; omega, ?_⟩
 rw [List.getElem_drop]
 congr 1; omega
theorem none_big {l : List UInt8} {k : Nat} (h0 : fromOf l ≤ k) (hk : k < l.length) (hc : 922337203685477580 < val ((l.drop (fromOf l)).take (k - fromOf l))) : ∀ m, I64 m → Lib.itoa m ≠ l := by
 intro m hm e
 have h1 := (itoa_parts e).1
 have h2 := val_more ((l.drop (fromOf l)).take (k - fromOf l)) ((l.drop (fromOf l)).drop (k - fromOf l)) (by
   intro e; have := congrArg List.length e; rw [List.length_drop, List.length_drop, List.length_nil] at this; omega)
 rw [List.take_append_drop, h1, val_decDigits] at h2
 rw [h1] at hc
 unfold I64 at hm
 omega
theorem none_len {l : List UInt8} (h : l.length = fromOf l ∨ 20 < l.length) : ∀ m, I64 m → Lib.itoa m ≠ l := by
 intro m hm e
 have h1 := (itoa_parts e).1
 have h2 := itoa_len hm
 rw [e] at h2
 rcases h with h | h
 · rw [← h, List.drop_length] at h1
   exact decDigits_ne _ h1.symm
 · omega
theorem itoa_is {l : List UInt8} {m : Int} (h : Lib.itoa m = l) : m = sgd (decide (fromOf l = 1)) (val (l.drop (fromOf l)) : Int) := by
 obtain ⟨h1, h2⟩ := itoa_parts h
 rw [h1, val_decDigits]
 by_cases h3 : m < 0
 · rw [decide_eq_true (h2.2 h3), sgd_t]; omega
 · rw [decide_eq_false (fun e => h3 (h2.1 e)), sgd_f]; omega
theorem none_fit {l : List UInt8} (h : ¬ I64 (sgd (decide (fromOf l = 1)) (val (l.drop (fromOf l)) : Int))) : ∀ m, I64 m → Lib.itoa m ≠ l := by
 intro m hm e; rw [← itoa_is e] at h; exact h hm
theorem none_ne {l : List UInt8} (h : Lib.itoa (sgd (decide (fromOf l = 1)) (val (l.drop (fromOf l)) : Int)) ≠ l) : ∀ m, I64 m → Lib.itoa m ≠ l := by
 intro m hm e; rw [← itoa_is e] at h; exact h e
theorem val_next {l : List UInt8} {k : Nat} (h0 : fromOf l ≤ k) (hk : k < l.length) : val ((l.drop (fromOf l)).take (k + 1 - fromOf l)) = val ((l.drop (fromOf l)).take (k - fromOf l)) * 10 + ((l[k]).toNat - 48) := by
 rw [show k + 1 - fromOf l = (k - fromOf l) + 1 by omega, List.take_succ_eq_append_getElem (by rw [List.length_drop]; omega), val_snoc, List.getElem_drop]
 congr 3
 congr 1
 omega
theorem byte_at (s : ByteArray) (k : Nat) (h : k < s.size) : s[k] = s.data.toList[k]'(by rw [← len_list]; exact h) := by
 rw [Array.getElem_toList]; rfl
theorem rparse (s : ByteArray) (w : World) :
   Calls prog 19 #[.string s] w fun e w' => e = .returned (.agg #[.int .i64 (parseN s.data.toList), .bool (parseB s.data.toList)]) ∧ Below w.heap.size w w' := by
 by_cases hs0 : s.size = 0
 · have E := hid (parse_none (l := s.data.toList) (none_len (Or.inl (by rw [← len_list, hs0]; unfold fromOf; rw [if_neg]; intro e; have := len_list s; cases hl : s.data.toList with
     | nil => rw [hl] at e; cases e
     | cons c r => rw [hl, hs0] at this; cases this))))
   go_enter func19, ntmps19
   go_wp2
   refine bodyPost_ret (v := .agg #[.int .i64 0, .bool false]) (by simp [results, results19, go_sem]) rfl ⟨got_eq E.out.1.symm E.out.2.symm, ?_⟩
   exact (Below.refl _ _).alloc (Nat.le_refl _) _
 · have hs1 : 0 < s.size := by omega
   clear hs0
   have hh : s.data.toList.head? = some s[0] := by
     rw [byte_at s 0 hs1, List.head?_eq_getElem?, List.getElem?_eq_getElem]
   by_cases hm : s[0] = 45
   · have hf0 : fromOf s.data.toList = 1 := by unfold fromOf; rw [hh, hm, if_pos rfl]
     have hm1 : ((s[0].toNat : Int) == 45) = true := by rw [hm]; rfl
     clear hm hh
     have E0 := hid hf0
     have FB : Hid (decide (fromOf s.data.toList = 1) = true) := hid (by rw [hf0]; rfl)
     clear hf0
     by_cases hlen : s.size = 1 ∨ 20 < s.size
     · have E := hid (parse_none (l := s.data.toList) (none_len (by rw [← len_list, E0.out]; exact hlen)))
       rcases hlen with hlen | hlen
       all_goals
         go_enter func19, ntmps19
         go_wp2
         refine bodyPost_ret (v := .agg #[.int .i64 0, .bool false]) (by simp [results, results19, go_sem]) rfl ⟨got_eq E.out.1.symm E.out.2.symm, ?_⟩
         exact (Below.refl _ _).alloc (Nat.le_refl _) _
     · have hl1 : ((s.size : Int) == 1) = false := by simp; omega
       have hl2 : s.size ≤ 20 := by omega
       have hl3 : 1 < s.size := by omega
       clear hlen
       go_enter func19, ntmps19
       go_wp2
       go_loop [4, 5] (fun u i => ∃ k n : Nat, 1 ≤ k ∧ k ≤ s.size ∧ n ≤ 9223372036854775809 ∧ i = .int .i64 k ∧ u = .int .u64 n ∧ Hid (n = val ((s.data.toList.drop 1).take (k - 1)))) (fun _ i => s.size - (intOf i).toNat)
       case atStart => exact ⟨1, 0, by omega, by omega, by omega, rfl, rfl, hid (by rw [Nat.sub_self, List.take_zero]; rfl)⟩
       case round =>
         obtain ⟨k, n, hk0, hk, hn, rfl, rfl, HV⟩ := hrel
         by_cases hlt : k < s.size
         · have hk' : k < s.data.toList.length := by rw [← len_list]; exact hlt
           have HB := hid (byte_at s k hlt)
           by_cases hd : 48 ≤ s[k].toNat ∧ s[k].toNat ≤ 57
           · by_cases hb : 922337203685477580 < n
             · have E := hid (parse_none (l := s.data.toList) (none_big (k := k) (by rw [E0.out]; exact hk0) hk' (by rw [E0.out, ← HV.out]; exact hb)))
               obtain ⟨hd1, hd2⟩ := hd
               go_wp2
               refine bodyPost_ret (v := .agg #[.int .i64 0, .bool false]) (by simp [results, results19, go_sem]) rfl ⟨got_eq E.out.1.symm E.out.2.symm, ?_⟩
               exact (Below.refl _ _).alloc (Nat.le_refl _) _
             · have hb' : n ≤ 922337203685477580 := by omega
               have HN : Hid (n * 10 + (s[k].toNat - 48) = val ((s.data.toList.drop 1).take (k + 1 - 1))) := hid (by
                 have := val_next (l := s.data.toList) (k := k) (by rw [E0.out]; exact hk0) hk'
                 rw [E0.out] at this
                 rw [this, HB.out, ← HV.out])
               clear hb
               obtain ⟨hd1, hd2⟩ := hd
               go_wp2
               go_round
               case rel => exact ⟨k + 1, n * 10 + (s[k].toNat - 48), by omega, by omega, by omega, by go_num, congrArg _ (by omega), HN⟩
               case measure => simp [intOf]; omega
           · have E := hid (parse_none (l := s.data.toList) (none_bad (k := k) (by rw [E0.out]; exact hk0) hk' (by rw [← HB.out]; exact hd)))
             have hd' : s[k].toNat < 48 ∨ 57 < s[k].toNat := by omega
             clear hd
             rcases hd' with hd | hd
             all_goals
               go_wp2
               refine bodyPost_ret (v := .agg #[.int .i64 0, .bool false]) (by simp [results, results19, go_sem]) rfl ⟨got_eq E.out.1.symm E.out.2.symm, ?_⟩
               exact (Below.refl _ _).alloc (Nat.le_refl _) _
         · obtain rfl : k = s.size := by omega
           have HV2 : Hid (n = val (s.data.toList.drop (fromOf s.data.toList))) := hid (by
             rw [HV.out, E0.out, List.take_of_length_le (by rw [List.length_drop, ← len_list]; exact Nat.le_refl _)])
           go_wp2_with fail
           refine (rsigned _ _ _ (by omega) (by omega)).mono ?_
           rintro e w1 ⟨rfl, hb1⟩
           have hz := size_of hb1
           obtain ⟨hc, hf⟩ := bcell hb1
           by_cases hfit : I64 (sgd true n)
           · have F1 := hid (fitN_yes hfit); have F2 := hid (fitB_yes hfit)
             rw [F1.out, F2.out]
             by_cases he : Lib.itoa (sgd true n) = s.data.toList
             · have E := hid (parse_some hfit he)
               have he1 : (Lib.itoa (sgd true n) == s.toList) = true := by rw [Lib.toList_data, he]; exact beq_self_eq_true _
               clear he
               go_wp2_with fail
               refine (rdec _ _ hfit).mono ?_
               rintro e w' ⟨rfl, rfl⟩
               go_wp2
               refine bodyPost_ret (v := .agg #[.int .i64 (sgd true n), .bool true]) (by simp [results, results19, go_sem, hc, hz]) rfl ⟨got_eq E.out.1.symm E.out.2.symm, ?_⟩
               repeat (first | exact below_of hb1 | refine Below.setCell ?_ (by simp) _ | refine Below.alloc ?_ (by simp; omega) _)
             · have E := hid (parse_none (l := s.data.toList) (none_ne (by rw [FB.out, ← HV2.out]; exact he)))
               have he1 : (Lib.itoa (sgd true n) == s.toList) = false := by rw [Lib.toList_data]; exact beq_eq_false_iff_ne.2 he
               clear he
               go_wp2_with fail
               refine (rdec _ _ hfit).mono ?_
               rintro e w' ⟨rfl, rfl⟩
               go_wp2
               refine bodyPost_ret (v := .agg #[.int .i64 0, .bool false]) (by simp [results, results19, go_sem, hc, hz]) rfl ⟨got_eq E.out.1.symm E.out.2.symm, ?_⟩
               repeat (first | exact below_of hb1 | refine Below.setCell ?_ (by simp) _ | refine Below.alloc ?_ (by simp; omega) _)
           · have F1 := hid (fitN_no hfit); have F2 := hid (fitB_no hfit)
             rw [F1.out, F2.out]
             have E := hid (parse_none (l := s.data.toList) (none_fit (by rw [FB.out, ← HV2.out]; exact hfit)))
             clear hfit
             go_wp2
             refine bodyPost_ret (v := .agg #[.int .i64 0, .bool false]) (by simp [results, results19, go_sem, hc, hz]) rfl ⟨got_eq E.out.1.symm E.out.2.symm, ?_⟩
             repeat (first | exact below_of hb1 | refine Below.setCell ?_ (by simp) _ | refine Below.alloc ?_ (by simp; omega) _)
   · have hf0 : fromOf s.data.toList = 0 := by unfold fromOf; rw [hh, if_neg (fun e => hm (Option.some.inj e))]
     have hm1 : ((s[0].toNat : Int) == 45) = false := by
       rw [beq_eq_false_iff_ne]; intro e; exact hm (UInt8.toNat_inj.1 (by rw [show (45 : UInt8).toNat = 45 from rfl]; omega))
     clear hm hh
     have E0 := hid hf0
     have FB : Hid (decide (fromOf s.data.toList = 1) = false) := hid (by rw [hf0]; rfl)
     clear hf0
     by_cases hlen : s.size = 0 ∨ 20 < s.size
     · have E := hid (parse_none (l := s.data.toList) (none_len (by rw [← len_list, E0.out]; exact hlen)))
       rcases hlen with hlen | hlen
       · omega
       have hl0 : ((s.size : Int) == 0) = false := beq_eq_false_iff_ne.2 (by omega)
       all_goals
         go_enter func19, ntmps19
         go_wp2
         refine bodyPost_ret (v := .agg #[.int .i64 0, .bool false]) (by simp [results, results19, go_sem]) rfl ⟨got_eq E.out.1.symm E.out.2.symm, ?_⟩
         exact (Below.refl _ _).alloc (Nat.le_refl _) _
     · have hl1 : ((s.size : Int) == 0) = false := beq_eq_false_iff_ne.2 (by omega)
       have hl2 : s.size ≤ 20 := by omega
       have hl3 : 0 < s.size := by omega
       clear hlen
       go_enter func19, ntmps19
       go_wp2
       go_loop [4, 5] (fun u i => ∃ k n : Nat, 0 ≤ k ∧ k ≤ s.size ∧ n ≤ 9223372036854775809 ∧ i = .int .i64 k ∧ u = .int .u64 n ∧ Hid (n = val ((s.data.toList.drop 0).take (k - 0)))) (fun _ i => s.size - (intOf i).toNat)
       case atStart => exact ⟨0, 0, by omega, by omega, by omega, rfl, rfl, hid (by rw [Nat.sub_self, List.take_zero]; rfl)⟩
       case round =>
         obtain ⟨k, n, hk0, hk, hn, rfl, rfl, HV⟩ := hrel
         by_cases hlt : k < s.size
         · have hk' : k < s.data.toList.length := by rw [← len_list]; exact hlt
           have HB := hid (byte_at s k hlt)
           by_cases hd : 48 ≤ s[k].toNat ∧ s[k].toNat ≤ 57
           · by_cases hb : 922337203685477580 < n
             · have E := hid (parse_none (l := s.data.toList) (none_big (k := k) (by rw [E0.out]; exact hk0) hk' (by rw [E0.out, ← HV.out]; exact hb)))
               obtain ⟨hd1, hd2⟩ := hd
               go_wp2
               refine bodyPost_ret (v := .agg #[.int .i64 0, .bool false]) (by simp [results, results19, go_sem]) rfl ⟨got_eq E.out.1.symm E.out.2.symm, ?_⟩
               exact (Below.refl _ _).alloc (Nat.le_refl _) _
             · have hb' : n ≤ 922337203685477580 := by omega
               have HN : Hid (n * 10 + (s[k].toNat - 48) = val ((s.data.toList.drop 0).take (k + 1 - 0))) := hid (by
                 have := val_next (l := s.data.toList) (k := k) (by rw [E0.out]; exact hk0) hk'
                 rw [E0.out] at this
                 rw [this, HB.out, ← HV.out])
               clear hb
               obtain ⟨hd1, hd2⟩ := hd
               go_wp2
               go_round
               case rel => exact ⟨k + 1, n * 10 + (s[k].toNat - 48), by omega, by omega, by omega, by go_num, congrArg _ (by omega), HN⟩
               case measure => simp [intOf]; omega
           · have E := hid (parse_none (l := s.data.toList) (none_bad (k := k) (by rw [E0.out]; exact hk0) hk' (by rw [← HB.out]; exact hd)))
             have hd' : s[k].toNat < 48 ∨ 57 < s[k].toNat := by omega
             clear hd
             rcases hd' with hd | hd
             all_goals
               go_wp2
               refine bodyPost_ret (v := .agg #[.int .i64 0, .bool false]) (by simp [results, results19, go_sem]) rfl ⟨got_eq E.out.1.symm E.out.2.symm, ?_⟩
               exact (Below.refl _ _).alloc (Nat.le_refl _) _
         · obtain rfl : k = s.size := by omega
           have HV2 : Hid (n = val (s.data.toList.drop (fromOf s.data.toList))) := hid (by
             rw [HV.out, E0.out, List.take_of_length_le (by rw [List.length_drop, ← len_list]; exact Nat.le_refl _)])
           go_wp2_with fail
           refine (rsigned _ _ _ (by omega) (by omega)).mono ?_
           rintro e w1 ⟨rfl, hb1⟩
           have hz := size_of hb1
           obtain ⟨hc, hf⟩ := bcell hb1
           by_cases hfit : I64 (sgd false n)
           · have F1 := hid (fitN_yes hfit); have F2 := hid (fitB_yes hfit)
             rw [F1.out, F2.out]
             by_cases he : Lib.itoa (sgd false n) = s.data.toList
             · have E := hid (parse_some hfit he)
               have he1 : (Lib.itoa (sgd false n) == s.toList) = true := by rw [Lib.toList_data, he]; exact beq_self_eq_true _
               clear he
               go_wp2_with fail
               refine (rdec _ _ hfit).mono ?_
               rintro e w' ⟨rfl, rfl⟩
               go_wp2
               refine bodyPost_ret (v := .agg #[.int .i64 (sgd false n), .bool true]) (by simp [results, results19, go_sem, hc, hz]) rfl ⟨got_eq E.out.1.symm E.out.2.symm, ?_⟩
               repeat (first | exact below_of hb1 | refine Below.setCell ?_ (by simp) _ | refine Below.alloc ?_ (by simp; omega) _)
             · have E := hid (parse_none (l := s.data.toList) (none_ne (by rw [FB.out, ← HV2.out]; exact he)))
               have he1 : (Lib.itoa (sgd false n) == s.toList) = false := by rw [Lib.toList_data]; exact beq_eq_false_iff_ne.2 he
               clear he
               go_wp2_with fail
               refine (rdec _ _ hfit).mono ?_
               rintro e w' ⟨rfl, rfl⟩
               go_wp2
               refine bodyPost_ret (v := .agg #[.int .i64 0, .bool false]) (by simp [results, results19, go_sem, hc, hz]) rfl ⟨got_eq E.out.1.symm E.out.2.symm, ?_⟩
               repeat (first | exact below_of hb1 | refine Below.setCell ?_ (by simp) _ | refine Below.alloc ?_ (by simp; omega) _)
           · have F1 := hid (fitN_no hfit); have F2 := hid (fitB_no hfit)
             rw [F1.out, F2.out]
             have E := hid (parse_none (l := s.data.toList) (none_fit (by rw [FB.out, ← HV2.out]; exact hfit)))
             clear hfit
             go_wp2
             refine bodyPost_ret (v := .agg #[.int .i64 0, .bool false]) (by simp [results, results19, go_sem, hc, hz]) rfl ⟨got_eq E.out.1.symm E.out.2.symm, ?_⟩
             repeat (first | exact below_of hb1 | refine Below.setCell ?_ (by simp) _ | refine Below.alloc ?_ (by simp; omega) _)
end Go.Proofs.YticehalcnbjccaaGreatDoor.NumC
namespace Go.Proofs.YticehalcnbjccaaGreatDoor.AddrC
set_option maxRecDepth 100000
set_option maxHeartbeats 8000000
set_option linter.unusedVariables false
open Go.RowKit NumC
open Tryz
open Lib (hid)
theorem abc_fin : ∀ i : Fin 26, (([65, 66, 67, 68, 69, 70, 71, 72, 73, 74, 75, 76, 77, 78, 79, 80, 81, 82, 83, 84, 85, 86, 87, 88, 89, 90] : List UInt8).drop i.val).take (i.val + 1 - i.val) = [UInt8.ofNat (65 + i.val)] := by decide
theorem letter (d : Nat) (h : d < 26) : ({ data := #[65, 66, 67, 68, 69, 70, 71, 72, 73, 74, 75, 76, 77, 78, 79, 80, 81, 82, 83, 84, 85, 86, 87, 88, 89, 90] } : ByteArray).extract d (d + 1) = ⟨[UInt8.ofNat (65 + d)].toArray⟩ := by
 apply WideShapes.bytes_inj
 rw [Lib.extract_data]
 exact abc_fin ⟨d, h⟩
theorem rcolumn (c : Int) (w : World) (h0 : 1 ≤ c) (h1 : c ≤ 50) :
   Calls prog 109 #[.int .i64 c] w fun e w' => e = .returned (.string ⟨(colL c).toArray⟩) ∧ w = w' := by
 by_cases h : c ≤ 26
 · obtain ⟨d, rfl⟩ : ∃ d : Nat, c = d + 1 := ⟨(c - 1).toNat, by omega⟩
   have E : Hid (colL (d + 1) = [UInt8.ofNat (65 + d)]) := hid (by unfold colL; rw [if_pos h, show 64 + ((d : Int) + 1).toNat = 65 + d from by omega])
   have P := hid (letter d (by omega))
   have hd : d < 26 := by omega
   clear h h0 h1
   go_enter func109, ntmps109
   go_wp2
   go_ret
   exact ⟨rets' (by rw [E.out]; exact P.out), rfl⟩
 · obtain ⟨d, rfl⟩ : ∃ d : Nat, c = d + 27 := ⟨(c - 27).toNat, by omega⟩
   have E : Hid (colL (d + 27) = [65, UInt8.ofNat (65 + d)]) := hid (by unfold colL; rw [if_neg h, show 38 + ((d : Int) + 27).toNat = 65 + d from by omega])
   have P := hid (letter d (by omega))
   have hd : d < 24 := by omega
   clear h h0 h1
   go_enter func109, ntmps109
   go_wp2
   go_ret
   exact ⟨rets' (by rw [E.out, P.out]; exact cons_str _ _), rfl⟩
theorem columnName1 (c : Int) (w : World) (h0 : 1 ≤ c) (h : c ≤ 26) :
   Calls prog 141 #[.int .i64 c] w fun e w' => e = .returned (.string ⟨(colL c).toArray⟩) ∧ w = w' := by
 obtain ⟨d, rfl⟩ : ∃ d : Nat, c = d + 1 := ⟨(c - 1).toNat, by omega⟩
 have E : Hid (colL (d + 1) = [UInt8.ofNat (65 + d)]) := hid (by unfold colL; rw [if_pos h, show 64 + ((d : Int) + 1).toNat = 65 + d from by omega])
 have hd : d < 26 := by omega
 have P := hid (letter d (by omega))
 have q1 : (d : Int) / 26 = 0 := by omega
 have q2 : (d : Int) % 26 = d := by omega
 clear h h0
 go_enter func141, ntmps141
 go_wp2_with fail
 go_ret
 exact ⟨rets' (by rw [E.out]; exact P.out), rfl⟩
theorem columnName (c : Int) (w : World) (h0 : 1 ≤ c) (h1 : c ≤ 50) :
   Calls prog 141 #[.int .i64 c] w fun e w' => e = .returned (.string ⟨(colL c).toArray⟩) ∧ w = w' := by
 by_cases h : c ≤ 26
 · exact columnName1 c w h0 h
 · obtain ⟨d, rfl⟩ : ∃ d : Nat, c = d + 27 := ⟨(c - 27).toNat, by omega⟩
   have E : Hid (colL (d + 27) = [65, UInt8.ofNat (65 + d)]) := hid (by unfold colL; rw [if_neg h, show 38 + ((d : Int) + 27).toNat = 65 + d from by omega])
   have E1 : Hid (colL 1 = [65]) := hid rfl
   have hd : d < 24 := by omega
   have P := hid (letter d (by omega))
   clear h h0 h1
   have q1 : ((d : Int) + 27 - 1) / 26 = 1 := by omega
   have q2 : ((d : Int) + 27 - 1) % 26 = d := by omega
   have q3 : (d + 27 - 1) % 26 = d := by omega
   go_enter func141, ntmps141
   go_wp2_with fail
   refine (columnName1 1 _ (by omega) (by omega)).mono ?_; rw [E1.out]; rintro e w' ⟨rfl, rfl⟩
   go_wp2_with fail
   go_ret
   exact ⟨rets' (by rw [E.out, P.out]; exact cons_str _ _), rfl⟩
end Go.Proofs.YticehalcnbjccaaGreatDoor.AddrC
