/-
  The walks of the statements NumDivides and NumTexts: for all arguments they answer true.
-/
import Derived.Test.YtkfgcnomojopdaaDoorNumW
import Derived.Test.YtkfgcnomojopdaaDoorNumU
import Derived.Test.YtkfgcnomojopdaaDoorNumE
namespace Go.Proofs.YtkfgcnomojopdaaDoor.NumC
set_option linter.unusedVariables false
open Go.RowKit

set_option maxRecDepth 100000 in
set_option maxHeartbeats 1000000 in
theorem numDivides (a b : Int) (w : World) (ha : I64 a) (hb : I64 b) (hl : LibIs w) :
    Calls Tryd.prog 4 #[.int .i64 a, .int .i64 b] w fun e w' => e = .returned (.bool true) ∧ Below w.heap.size w w' := by
  go_enter Tryd.func4, Tryd.ntmps4
  go_wp2_with fail
  refine (div _ _ _ ha hb).mono ?_; rintro e w' ⟨rfl, rfl⟩
  go_wp2_with fail
  refine (mod _ _ _ ha hb).mono ?_; rintro e w' ⟨rfl, rfl⟩
  go_wp2_with fail
  refine (pow _ _ _ ha hb).mono ?_; rintro e w' ⟨rfl, rfl⟩
  go_wp2_with fail
  refine (gcd _ _ _ ha hb).mono ?_; rintro e w1 ⟨rfl, hb1⟩
  go_wp2_with fail
  refine (rdiv _ _ _ ha hb).mono ?_; rintro e w2 ⟨rfl, hb2⟩
  go_wp2_with fail
  refine (rmod _ _ _ ha hb).mono ?_; rintro e w3 ⟨rfl, hb3⟩
  go_wp2_with fail
  refine (rpow _ _ _ ha hb).mono ?_; rintro e w4 ⟨rfl, hb4⟩
  go_wp2_with fail
  refine (rgcd _ _ _ ha hb).mono ?_; rintro e w5 ⟨rfl, hb5⟩
  go_wp2_with fail
  have hC := hb1.trans ((hb2.trans ((hb3.trans ((hb4.trans (hb5.mono hb4.size)).mono hb3.size)).mono hb2.size)).mono hb1.size)
  have hz := hC.size
  have hB := (((hC.alloc hz (Obj.cells #[Value.int IntKind.i64 (divN a b), Value.bool (divB a b)] 25)).alloc (by simp; omega) (Obj.cells #[Value.int IntKind.i64 (modN a b), Value.bool (divB a b)] 25)).alloc (by simp; omega) (Obj.cells #[Value.int IntKind.i64 (powN a b), Value.bool (powB a b)] 25)).alloc (by simp; omega) (Obj.cells #[Value.int IntKind.i64 (fitN (gcdI a b)), Value.bool (fitB (gcdI a b))] 25)
  refine (wakes _ (hl.below hB)).mono ?_; rintro e w6 ⟨rfl, hb6⟩
  go_wp2
  go_ret
  exact ⟨ret1 rfl, hB.trans (hb6.mono hB.size)⟩

set_option maxRecDepth 100000 in
set_option maxHeartbeats 1000000 in
theorem numTexts (a : Int) (s : ByteArray) (w : World) (ha : I64 a) (hs : s.size ≤ 9223372036854775807) (hl : LibIs w) :
    Calls Tryd.prog 5 #[.int .i64 a, .string s] w fun e w' => e = .returned (.bool true) ∧ Below w.heap.size w w' := by
  by_cases h : 2000 < s.size
  · go_enter Tryd.func5, Tryd.ntmps5
    go_wp2_with fail
    refine (wakes _ hl).mono ?_; rintro e w6 ⟨rfl, hb6⟩
    go_wp2
    go_ret
    exact ⟨ret1 rfl, hb6⟩
  · have h' : s.size ≤ 2000 := by omega
    have P := Lib.hid (parse_some ha rfl)
    clear h
    go_enter Tryd.func5, Tryd.ntmps5
    go_wp2_with fail
    refine (parse _ _ hl).mono ?_; rintro e w1 ⟨rfl, hb1⟩
    go_wp2_with fail
    refine (rparse _ _).mono ?_; rintro e w2 ⟨rfl, hb2⟩
    have hB2 := (hb1.trans (hb2.mono hb1.size)).alloc (Nat.le_trans hb1.size hb2.size) (Obj.cells #[Value.int IntKind.i64 (parseN s.data.toList), Value.bool (parseB s.data.toList)] 25)
    have hl2 := hl.below hB2
    go_wp2_with fail
    refine (dec _ _ ha hl2).mono ?_; rintro e w3 ⟨rfl, hb3⟩
    have hl3 := hl2.below hb3
    go_wp2_with fail
    refine (parse ⟨(Lib.itoa a).toArray⟩ _ hl3).mono ?_; rw [P.out.1, P.out.2]; rintro e w4 ⟨rfl, hb4⟩
    have hl4 := hl3.below hb4
    go_wp2_with fail
    refine (dec _ _ ha hl4).mono ?_; rintro e w5 ⟨rfl, hb5⟩
    have hl5 := hl4.below hb5
    have hb35 := hb3.trans ((hb4.trans (hb5.mono hb4.size)).mono hb3.size)
    obtain ⟨hc, hf⟩ := bcell hb35
    have hz := hb35.size
    go_wp2_with fail
    refine (rdec _ _ ha).mono ?_; rintro e w' ⟨rfl, rfl⟩
    go_wp2_with fail
    refine (wakes _ hl5).mono ?_; rintro e w6 ⟨rfl, hb6⟩
    go_wp2
    go_ret
    have hE := hB2.trans ((hb35.trans (hb6.mono hz)).mono hB2.size)
    exact ⟨ret1 rfl, hE⟩
end Go.Proofs.YtkfgcnomojopdaaDoor.NumC
