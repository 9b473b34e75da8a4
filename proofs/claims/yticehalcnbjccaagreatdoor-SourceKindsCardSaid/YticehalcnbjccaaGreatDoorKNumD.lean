/-
  Contracts of package num: Dec, Parse. Of the world: the library's table and its two errors read as they are laid.
-/
import Derived.Test.YticehalcnbjccaaGreatDoorKNumN
import Derived.Test.YticehalcnbjccaaGreatDoorProg
import Derived.Test.YticehalcnbjccaaGreatDoorKNumM
import Derived.Test.YticehalcnbjccaaGreatDoorKShelf
import Derived.Test.YticehalcnbjccaaGreatDoorKNumR
import Derived.Test.YticehalcnbjccaaGreatDoorKAddrA
import Derived.WalkKit
import Derived.WalkSpells
import Derived.WalkLawsBesides
import Derived.Deep.QuietTactic
import Derived.BigQuiet
import Derived.Lib.Hide
import Derived.Deep.DeepFit
import Derived.WalkSmall
import Derived.Lib.AppendIntMem
import Derived.Lib.AtoiErrMem
import Derived.Lib.Strings
import Derived.WideShapes
namespace Go.Proofs.YticehalcnbjccaaGreatDoor.NumC
set_option linter.unusedVariables false
open Go.RowKit
structure LibIs (w : World) : Prop where
  tab : Lib.TabIs Tryz.prog w "internal/strconv.uint64pow10" .u64 Lib.pow10Tab
  syn : ∃ t p, w.var? Tryz.prog "strconv.ErrSyntax" = some #[.iface t p]
  ran : ∃ t p, w.var? Tryz.prog "strconv.ErrRange" = some #[.iface t p]
theorem gTab : Tryz.prog.globalNamed "internal/strconv.uint64pow10" = some 4 := by kernel_rfl
theorem gSyn : Tryz.prog.globalNamed "strconv.ErrSyntax" = some 2 := by kernel_rfl
theorem gRan : Tryz.prog.globalNamed "strconv.ErrRange" = some 3 := by kernel_rfl
theorem var?_size {P : Program} {w : World} {n : String} {g : Nat} {cs : Array Value} (hg : P.globalNamed n = some g) (hv : w.var? P n = some cs) : g < w.heap.size := by
  unfold World.var? at hv
  rw [hg] at hv
  simp only [Option.bind_some] at hv
  rcases Nat.lt_or_ge g w.heap.size with h | h
  · exact h
  · rw [Array.getElem?_eq_none h] at hv; cases hv
theorem LibIs.below {w w' : World} (h : LibIs w) (hb : Below w.heap.size w w') : LibIs w' := by
  obtain ⟨h1, ⟨t2, p2, h2⟩, ⟨t3, p3, h3⟩⟩ := h
  exact ⟨var?_below hb gTab (var?_size gTab h1) h1, ⟨t2, p2, var?_below hb gSyn (var?_size gSyn h2) h2⟩, ⟨t3, p3, var?_below hb gRan (var?_size gRan h3) h3⟩⟩
set_option maxHeartbeats 400000 in
theorem dec (a : Int) (w : World) (ha : I64 a) (hl : LibIs w) :
    Calls Tryz.prog 74 #[.int .i64 a] w fun e w' => e = .returned (.string ⟨(Lib.itoa a).toArray⟩) ∧ Below w.heap.size w w' := by
  go_enter Tryz.func74, Tryz.ntmps74
  go_wp2_with fail
  refine (Tryz.strconv_FormatInt_10 _ ha.1 ha.2 _ hl.tab).mono ?_
  rintro e w' ⟨rfl, k, os, rfl⟩
  go_wp2
  go_ret
  exact ⟨rfl, Lib.below_grow _ _ (Nat.le_refl _) _ _⟩
theorem len_list (s : ByteArray) : s.size = s.data.toList.length := by unfold ByteArray.size; exact Array.length_toList.symm
set_option maxHeartbeats 1000000 in
theorem parse (s : ByteArray) (w : World) (hl : LibIs w) :
    Calls Tryz.prog 44 #[.string s] w fun e w' => e = .returned (.tuple #[.int .i64 (parseN s.data.toList), .bool (parseB s.data.toList)]) ∧ Below w.heap.size w w' := by
  by_cases h : 20 < s.size
  · have E : Hid (parseN s.data.toList = 0 ∧ parseB s.data.toList = false) := Lib.hid (parse_none fun m hm e => by
      have := (itoa_len hm).2; rw [e, ← len_list] at this; omega)
    go_enter Tryz.func44, Tryz.ntmps44
    go_wp2
    go_ret2
    exact ⟨ret2 E.out.1.symm E.out.2.symm, Below.refl _ _⟩
  · have hle : s.size ≤ 20 := by omega
    clear h
    rcases ha : Lib.atoiAll s.data.toList with v | _ | _
    · have H : Hid (Lib.parseIntB 64 s.data.toList = .ok v) := Lib.hid (by rw [Lib.parseIntB_64, ha])
      have hi := atoi_i64 ha
      by_cases he : Lib.itoa v = s.data.toList
      · have E := Lib.hid (parse_some hi he)
        have HE : (Lib.itoa v == s.toList) = true := by rw [Lib.toList_data, he]; exact beq_self_eq_true _
        clear ha he
        go_enter Tryz.func44, Tryz.ntmps44
        go_wp2_with fail
        refine (Tryz.strconv_ParseInt_10_at64_ok _ (by omega) _ H.out _).mono ?_
        rintro e w1 ⟨rfl, hw1⟩
        have hb1 : Below w.heap.size w w1 := by
          rcases hw1 with rfl | ⟨t, rfl⟩
          · exact Below.refl _ _
          · exact Lib.bytesWorld_below _ _ _
        have hl1 := hl.below hb1
        clear hw1
        go_wp2_with fail
        refine (dec _ _ hi hl1).mono ?_
        rintro e w2 ⟨rfl, hb2⟩
        go_wp2
        go_ret2
        exact ⟨ret2 E.out.1.symm E.out.2.symm, hb1.trans (hb2.mono hb1.size)⟩
      · have E : Hid (parseN s.data.toList = 0 ∧ parseB s.data.toList = false) := Lib.hid (by
          unfold parseN parseB; rw [ha]; simp only; rw [if_neg he, decide_eq_false he]; exact ⟨rfl, rfl⟩)
        have HE : (Lib.itoa v == s.toList) = false := by rw [Lib.toList_data]; exact beq_eq_false_iff_ne.2 he
        clear ha he
        go_enter Tryz.func44, Tryz.ntmps44
        go_wp2_with fail
        refine (Tryz.strconv_ParseInt_10_at64_ok _ (by omega) _ H.out _).mono ?_
        rintro e w1 ⟨rfl, hw1⟩
        have hb1 : Below w.heap.size w w1 := by
          rcases hw1 with rfl | ⟨t, rfl⟩
          · exact Below.refl _ _
          · exact Lib.bytesWorld_below _ _ _
        have hl1 := hl.below hb1
        clear hw1
        go_wp2_with fail
        refine (dec _ _ hi hl1).mono ?_
        rintro e w2 ⟨rfl, hb2⟩
        go_wp2
        go_ret2
        exact ⟨ret2 E.out.1.symm E.out.2.symm, hb1.trans (hb2.mono hb1.size)⟩
    · have H := Lib.hid ((Lib.parseIntB_64 s.data.toList).trans ha)
      have E : Hid (parseN s.data.toList = 0 ∧ parseB s.data.toList = false) := Lib.hid (by
        unfold parseN parseB; rw [ha]; exact ⟨rfl, rfl⟩)
      clear ha
      obtain ⟨tp, p, hv⟩ := hl.syn
      have HV := Lib.hid hv; clear hv
      go_enter Tryz.func44, Tryz.ntmps44
      go_wp2_with fail
      refine (Any.strconv_ParseInt_10_at64_syntax_var Tryz.laysC174 _ (by omega) H.out _ _ _ HV.out).mono ?_
      rintro e w1 ⟨N, rfl, hN, hN2, hb1⟩
      clear hN2
      go_wp2
      go_ret2
      exact ⟨ret2 E.out.1.symm E.out.2.symm, hb1⟩
    · have H := Lib.hid ((Lib.parseIntB_64 s.data.toList).trans ha)
      have E : Hid (parseN s.data.toList = 0 ∧ parseB s.data.toList = false) := Lib.hid (by
        unfold parseN parseB; rw [ha]; exact ⟨rfl, rfl⟩)
      clear ha
      obtain ⟨tp, p, hv⟩ := hl.ran
      have HV := Lib.hid hv; clear hv
      go_enter Tryz.func44, Tryz.ntmps44
      go_wp2_with fail
      refine (Tryz.strconv_ParseInt_10_at64_range_var _ (by omega) H.out _ _ _ HV.out).mono ?_
      rintro e w1 ⟨N, rfl, hN, hN2, hb1⟩
      clear hN2
      go_wp2
      go_ret2
      exact ⟨ret2 E.out.1.symm E.out.2.symm, hb1⟩
end Go.Proofs.YticehalcnbjccaaGreatDoor.NumC
namespace Go.Proofs.YticehalcnbjccaaGreatDoor.NumC
set_option linter.unusedVariables false
open Go.RowKit
theorem cons_str (c : UInt8) (l : List UInt8) : ((⟨#[c]⟩ : ByteArray) ++ (⟨l.toArray⟩ : ByteArray)) = ⟨(c :: l).toArray⟩ := by
  apply WideShapes.bytes_inj
  rw [ByteArray.data_append, Array.toList_append]; rfl
theorem rets' {s : ByteArray} {l : List UInt8} (h : s = ⟨l.toArray⟩) : Ending.returned (.string s) = .returned (.string ⟨l.toArray⟩) := by rw [h]
end Go.Proofs.YticehalcnbjccaaGreatDoor.NumC
namespace Go.Proofs.YticehalcnbjccaaGreatDoor.AddrC
set_option linter.unusedVariables false
open Go.RowKit Go.Proofs.YticehalcnbjccaaGreatDoor.NumC
theorem abc_fin : ∀ i : Fin 26, (([65, 66, 67, 68, 69, 70, 71, 72, 73, 74, 75, 76, 77, 78, 79, 80, 81, 82, 83, 84, 85, 86, 87, 88, 89, 90] : List UInt8).drop i.val).take (i.val + 1 - i.val) = [UInt8.ofNat (65 + i.val)] := by decide
theorem letter (d : Nat) (h : d < 26) : ({ data := #[65, 66, 67, 68, 69, 70, 71, 72, 73, 74, 75, 76, 77, 78, 79, 80, 81, 82, 83, 84, 85, 86, 87, 88, 89, 90] } : ByteArray).extract d (d + 1) = ⟨[UInt8.ofNat (65 + d)].toArray⟩ := by
  apply WideShapes.bytes_inj
  rw [Lib.extract_data]
  exact abc_fin ⟨d, h⟩
set_option maxHeartbeats 400000 in
theorem rcolumn (c : Int) (w : World) (h0 : 1 ≤ c) (h1 : c ≤ 50) :
    Calls Tryz.prog 109 #[.int .i64 c] w fun e w' => e = .returned (.string ⟨(colL c).toArray⟩) ∧ w = w' := by
  by_cases h : c ≤ 26
  · obtain ⟨d, rfl⟩ : ∃ d : Nat, c = d + 1 := ⟨(c - 1).toNat, by omega⟩
    have E : Hid (colL (d + 1) = [UInt8.ofNat (65 + d)]) := Lib.hid (by unfold colL; rw [if_pos h, show 64 + ((d : Int) + 1).toNat = 65 + d from by omega])
    have P := Lib.hid (letter d (by omega))
    have hd : d < 26 := by omega
    clear h h0 h1
    go_enter Tryz.func109, Tryz.ntmps109
    go_wp2
    go_ret
    exact ⟨rets' (by rw [E.out]; exact P.out), rfl⟩
  · obtain ⟨d, rfl⟩ : ∃ d : Nat, c = d + 27 := ⟨(c - 27).toNat, by omega⟩
    have E : Hid (colL (d + 27) = [65, UInt8.ofNat (65 + d)]) := Lib.hid (by unfold colL; rw [if_neg h, show 38 + ((d : Int) + 27).toNat = 65 + d from by omega])
    have P := Lib.hid (letter d (by omega))
    have hd : d < 24 := by omega
    clear h h0 h1
    go_enter Tryz.func109, Tryz.ntmps109
    go_wp2
    go_ret
    exact ⟨rets' (by rw [E.out, P.out]; exact cons_str _ _), rfl⟩
set_option maxHeartbeats 400000 in
theorem columnName1 (c : Int) (w : World) (h0 : 1 ≤ c) (h : c ≤ 26) :
    Calls Tryz.prog 141 #[.int .i64 c] w fun e w' => e = .returned (.string ⟨(colL c).toArray⟩) ∧ w = w' := by
  obtain ⟨d, rfl⟩ : ∃ d : Nat, c = d + 1 := ⟨(c - 1).toNat, by omega⟩
  have E : Hid (colL (d + 1) = [UInt8.ofNat (65 + d)]) := Lib.hid (by unfold colL; rw [if_pos h, show 64 + ((d : Int) + 1).toNat = 65 + d from by omega])
  have hd : d < 26 := by omega
  have P := Lib.hid (letter d (by omega))
  have q1 : (d : Int) / 26 = 0 := by omega
  have q2 : (d : Int) % 26 = d := by omega
  clear h h0
  go_enter Tryz.func141, Tryz.ntmps141
  go_wp2_with fail
  go_ret
  exact ⟨rets' (by rw [E.out]; exact P.out), rfl⟩
set_option maxHeartbeats 400000 in
theorem columnName (c : Int) (w : World) (h0 : 1 ≤ c) (h1 : c ≤ 50) :
    Calls Tryz.prog 141 #[.int .i64 c] w fun e w' => e = .returned (.string ⟨(colL c).toArray⟩) ∧ w = w' := by
  by_cases h : c ≤ 26
  · exact columnName1 c w h0 h
  · obtain ⟨d, rfl⟩ : ∃ d : Nat, c = d + 27 := ⟨(c - 27).toNat, by omega⟩
    have E : Hid (colL (d + 27) = [65, UInt8.ofNat (65 + d)]) := Lib.hid (by unfold colL; rw [if_neg h, show 38 + ((d : Int) + 27).toNat = 65 + d from by omega])
    have E1 : Hid (colL 1 = [65]) := Lib.hid rfl
    have hd : d < 24 := by omega
    have P := Lib.hid (letter d (by omega))
    clear h h0 h1
    have q1 : ((d : Int) + 27 - 1) / 26 = 1 := by omega
    have q2 : ((d : Int) + 27 - 1) % 26 = d := by omega
    have q3 : (d + 27 - 1) % 26 = d := by omega
    go_enter Tryz.func141, Tryz.ntmps141
    go_wp2_with fail
    refine (columnName1 1 _ (by omega) (by omega)).mono ?_; rw [E1.out]; rintro e w' ⟨rfl, rfl⟩
    go_wp2_with fail
    go_ret
    exact ⟨rets' (by rw [E.out, P.out]; exact cons_str _ _), rfl⟩
end Go.Proofs.YticehalcnbjccaaGreatDoor.AddrC
