/-
  Contracts of package num: Dec, Parse. Of the world: the library's table and its two errors read as they are laid.
-/
import Derived.Test.YtccigjelbnjcoaaGreatDoorPNamesNumN
import Derived.Test.YtccigjelbnjcoaaGreatDoorProg
import Derived.Test.YtccigjelbnjcoaaGreatDoorPNamesNumM
import Derived.Test.YtccigjelbnjcoaaGreatDoorPNamesShelf
import Derived.WalkKit
import Derived.WalkSpells
import Derived.WalkLawsBesides
import Derived.Deep.QuietTactic
import Derived.BigQuiet
import Derived.Lib.Hide
import Derived.Deep.DeepFit
import Derived.WalkSmall
import Derived.Lib.AppendIntMem
import Derived.Lib.AtoiErrMem
namespace Go.Proofs.YtccigjelbnjcoaaGreatDoor.NumC
set_option linter.unusedVariables false
open Go.RowKit
structure LibIs (w : World) : Prop where
  tab : Lib.TabIs Tryz.prog w "internal/strconv.uint64pow10" .u64 Lib.pow10Tab
  syn : ∃ t p, w.var? Tryz.prog "strconv.ErrSyntax" = some #[.iface t p]
  ran : ∃ t p, w.var? Tryz.prog "strconv.ErrRange" = some #[.iface t p]
theorem gTab : Tryz.prog.globalNamed "internal/strconv.uint64pow10" = some 6 := by kernel_rfl
theorem gSyn : Tryz.prog.globalNamed "strconv.ErrSyntax" = some 2 := by kernel_rfl
theorem gRan : Tryz.prog.globalNamed "strconv.ErrRange" = some 3 := by kernel_rfl
theorem var?_size {P : Program} {w : World} {n : String} {g : Nat} {cs : Array Value} (hg : P.globalNamed n = some g) (hv : w.var? P n = some cs) : g < w.heap.size := by
  unfold World.var? at hv
  rw [hg] at hv
  simp only [Option.bind_some] at hv
  rcases Nat.lt_or_ge g w.heap.size with h | h
  · exact h
  · rw [Array.getElem?_eq_none h] at hv; cases hv
theorem LibIs.below {w w' : World} (h : LibIs w) (hb : Below w.heap.size w w') : LibIs w' := by
  obtain ⟨h1, ⟨t2, p2, h2⟩, ⟨t3, p3, h3⟩⟩ := h
  exact ⟨var?_below hb gTab (var?_size gTab h1) h1, ⟨t2, p2, var?_below hb gSyn (var?_size gSyn h2) h2⟩, ⟨t3, p3, var?_below hb gRan (var?_size gRan h3) h3⟩⟩
set_option maxHeartbeats 400000 in
theorem dec (a : Int) (w : World) (ha : I64 a) (hl : LibIs w) :
    Calls Tryz.prog 112 #[.int .i64 a] w fun e w' => e = .returned (.string ⟨(Lib.itoa a).toArray⟩) ∧ Below w.heap.size w w' := by
  go_enter Tryz.func112, Tryz.ntmps112
  go_wp2_with fail
  refine (Tryz.strconv_FormatInt_10 _ ha.1 ha.2 _ hl.tab).mono ?_
  rintro e w' ⟨rfl, k, os, rfl⟩
  go_wp2
  go_ret
  exact ⟨rfl, Lib.below_grow _ _ (Nat.le_refl _) _ _⟩
theorem len_list (s : ByteArray) : s.size = s.data.toList.length := by unfold ByteArray.size; exact Array.length_toList.symm
set_option maxHeartbeats 1000000 in
theorem parse (s : ByteArray) (w : World) (hl : LibIs w) :
    Calls Tryz.prog 93 #[.string s] w fun e w' => e = .returned (.tuple #[.int .i64 (parseN s.data.toList), .bool (parseB s.data.toList)]) ∧ Below w.heap.size w w' := by
  by_cases h : 20 < s.size
  · have E : Hid (parseN s.data.toList = 0 ∧ parseB s.data.toList = false) := Lib.hid (parse_none fun m hm e => by
      have := (itoa_len hm).2; rw [e, ← len_list] at this; omega)
    go_enter Tryz.func93, Tryz.ntmps93
    go_wp2
    go_ret2
    exact ⟨ret2 E.out.1.symm E.out.2.symm, Below.refl _ _⟩
  · have hle : s.size ≤ 20 := by omega
    clear h
    rcases ha : Lib.atoiAll s.data.toList with v | _ | _
    · have H : Hid (Lib.parseIntB 64 s.data.toList = .ok v) := Lib.hid (by rw [Lib.parseIntB_64, ha])
      have hi := atoi_i64 ha
      by_cases he : Lib.itoa v = s.data.toList
      · have E := Lib.hid (parse_some hi he)
        have HE : (Lib.itoa v == s.toList) = true := by rw [Lib.toList_data, he]; exact beq_self_eq_true _
        clear ha he
        go_enter Tryz.func93, Tryz.ntmps93
        go_wp2_with fail
        refine (Tryz.strconv_ParseInt_10_at64_ok _ (by omega) _ H.out _).mono ?_
        rintro e w1 ⟨rfl, hw1⟩
        have hb1 : Below w.heap.size w w1 := by
          rcases hw1 with rfl | ⟨t, rfl⟩
          · exact Below.refl _ _
          · exact Lib.bytesWorld_below _ _ _
        have hl1 := hl.below hb1
        clear hw1
        go_wp2_with fail
        refine (dec _ _ hi hl1).mono ?_
        rintro e w2 ⟨rfl, hb2⟩
        go_wp2
        go_ret2
        exact ⟨ret2 E.out.1.symm E.out.2.symm, hb1.trans (hb2.mono hb1.size)⟩
      · have E : Hid (parseN s.data.toList = 0 ∧ parseB s.data.toList = false) := Lib.hid (by
          unfold parseN parseB; rw [ha]; simp only; rw [if_neg he, decide_eq_false he]; exact ⟨rfl, rfl⟩)
        have HE : (Lib.itoa v == s.toList) = false := by rw [Lib.toList_data]; exact beq_eq_false_iff_ne.2 he
        clear ha he
        go_enter Tryz.func93, Tryz.ntmps93
        go_wp2_with fail
        refine (Tryz.strconv_ParseInt_10_at64_ok _ (by omega) _ H.out _).mono ?_
        rintro e w1 ⟨rfl, hw1⟩
        have hb1 : Below w.heap.size w w1 := by
          rcases hw1 with rfl | ⟨t, rfl⟩
          · exact Below.refl _ _
          · exact Lib.bytesWorld_below _ _ _
        have hl1 := hl.below hb1
        clear hw1
        go_wp2_with fail
        refine (dec _ _ hi hl1).mono ?_
        rintro e w2 ⟨rfl, hb2⟩
        go_wp2
        go_ret2
        exact ⟨ret2 E.out.1.symm E.out.2.symm, hb1.trans (hb2.mono hb1.size)⟩
    · have H := Lib.hid ((Lib.parseIntB_64 s.data.toList).trans ha)
      have E : Hid (parseN s.data.toList = 0 ∧ parseB s.data.toList = false) := Lib.hid (by
        unfold parseN parseB; rw [ha]; exact ⟨rfl, rfl⟩)
      clear ha
      obtain ⟨tp, p, hv⟩ := hl.syn
      have HV := Lib.hid hv; clear hv
      go_enter Tryz.func93, Tryz.ntmps93
      go_wp2_with fail
      refine (Any.strconv_ParseInt_10_at64_syntax_var Tryz.laysC174 _ (by omega) H.out _ _ _ HV.out).mono ?_
      rintro e w1 ⟨N, rfl, hN, hN2, hb1⟩
      clear hN2
      go_wp2
      go_ret2
      exact ⟨ret2 E.out.1.symm E.out.2.symm, hb1⟩
    · have H := Lib.hid ((Lib.parseIntB_64 s.data.toList).trans ha)
      have E : Hid (parseN s.data.toList = 0 ∧ parseB s.data.toList = false) := Lib.hid (by
        unfold parseN parseB; rw [ha]; exact ⟨rfl, rfl⟩)
      clear ha
      obtain ⟨tp, p, hv⟩ := hl.ran
      have HV := Lib.hid hv; clear hv
      go_enter Tryz.func93, Tryz.ntmps93
      go_wp2_with fail
      refine (Tryz.strconv_ParseInt_10_at64_range_var _ (by omega) H.out _ _ _ HV.out).mono ?_
      rintro e w1 ⟨N, rfl, hN, hN2, hb1⟩
      clear hN2
      go_wp2
      go_ret2
      exact ⟨ret2 E.out.1.symm E.out.2.symm, hb1⟩
end Go.Proofs.YtccigjelbnjcoaaGreatDoor.NumC
