/-
  The walk of the statement NumAdds: for all int64 a, b it answers true.
-/
import Derived.Test.YtkfgcnomojopdaaDoorNumW
import Derived.Test.YtkfgcnomojopdaaDoorNumU
namespace Go.Proofs.YtkfgcnomojopdaaDoor.NumC
set_option linter.unusedVariables false
open Go.RowKit

set_option maxRecDepth 100000 in
set_option maxHeartbeats 1000000 in
theorem numAdds (a b : Int) (w : World) (ha : I64 a) (hb : I64 b) (hl : LibIs w) :
    Calls Tryd.prog 3 #[.int .i64 a, .int .i64 b] w fun e w' => e = .returned (.bool true) ∧ Below w.heap.size w w' := by
  go_enter Tryd.func3, Tryd.ntmps3
  go_wp2_with fail
  refine (add _ _ _ ha hb).mono ?_; rintro e w' ⟨rfl, rfl⟩
  go_wp2_with fail
  refine (sub _ _ _ ha hb).mono ?_; rintro e w' ⟨rfl, rfl⟩
  go_wp2_with fail
  refine (mul _ _ _ ha hb).mono ?_; rintro e w' ⟨rfl, rfl⟩
  go_wp2_with fail
  refine (radd _ _ _ ha hb).mono ?_; rintro e w1 ⟨rfl, hb1⟩
  go_wp2_with fail
  refine (rsub _ _ _ ha hb).mono ?_; rintro e w2 ⟨rfl, hb2⟩
  go_wp2_with fail
  refine (rmul _ _ _ ha hb).mono ?_; rintro e w3 ⟨rfl, hb3⟩
  go_wp2_with fail
  have hB := ((((hb1.trans (hb2.mono hb1.size)).trans (hb3.mono (Nat.le_trans hb1.size hb2.size))).alloc (Nat.le_trans hb1.size (Nat.le_trans hb2.size hb3.size)) (Obj.cells #[Value.int IntKind.i64 (fitN (a + b)), Value.bool (fitB (a + b))] 25)).alloc (by have := hb1.size; have := hb2.size; have := hb3.size; simp; omega) (Obj.cells #[Value.int IntKind.i64 (fitN (a - b)), Value.bool (fitB (a - b))] 25)).alloc (by have := hb1.size; have := hb2.size; have := hb3.size; simp; omega) (Obj.cells #[Value.int IntKind.i64 (fitN (a * b)), Value.bool (fitB (a * b))] 25)
  refine (wakes _ (hl.below hB)).mono ?_; rintro e w4 ⟨rfl, hb4⟩
  go_wp2
  go_ret
  exact ⟨ret1 rfl, hB.trans (hb4.mono hB.size)⟩
end Go.Proofs.YtkfgcnomojopdaaDoor.NumC
