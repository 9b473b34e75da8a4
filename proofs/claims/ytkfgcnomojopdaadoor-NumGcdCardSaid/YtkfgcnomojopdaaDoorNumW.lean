/-
  The statements' own example of layer 1 (wakes) answers true.
-/
import Derived.Test.YtkfgcnomojopdaaDoorNumD
namespace Go.Proofs.YtkfgcnomojopdaaDoor.NumC
set_option linter.unusedVariables false
open Go.RowKit

def leastText : ByteArray := { data := #[45, 57, 50, 50, 51, 51, 55, 50, 48, 51, 54, 56, 53, 52, 55, 55, 53, 56, 48, 56] }
theorem least_itoa : Lib.itoa (-9223372036854775808) = leastText.data.toList := by
  unfold Lib.itoa
  rw [if_pos (by decide), show (-9223372036854775808 : Int).natAbs = 9223372036854775808 from rfl, Lib.decDigits_eq,
    Lib.nDigits_unique 18 9223372036854775808 (by decide) (by decide)]
  decide +kernel
theorem least_parse : parseN leastText.data.toList = -9223372036854775808 ∧ parseB leastText.data.toList = true := parse_some (by decide) least_itoa
theorem least_eq : (Lib.itoa (-9223372036854775808) == leastText.toList) = true := by rw [Lib.toList_data, least_itoa]; exact beq_self_eq_true _

set_option maxRecDepth 100000 in
set_option maxHeartbeats 1000000 in
theorem wakes (w : World) (hl : LibIs w) :
    Calls Tryd.prog 15 #[] w fun e w' => e = .returned (.bool true) ∧ Below w.heap.size w w' := by
  have P := Lib.hid least_parse
  have Q := Lib.hid least_eq
  have D1 : Hid (divN (-7) 2 = -3) := Lib.hid (by decide)
  have D2 : Hid (divB (-7) 2 = true) := Lib.hid (by decide)
  have D3 : Hid (modN (-7) 2 = -1) := Lib.hid (by decide)
  have D4 : Hid (powB 2 63 = false) := Lib.hid (by decide)
  go_enter Tryd.func15, Tryd.ntmps15
  go_wp2_with fail
  refine (div _ _ _ (by decide) (by decide)).mono ?_; rw [D1.out, D2.out]; rintro e w' ⟨rfl, rfl⟩
  go_wp2_with fail
  refine (mod _ _ _ (by decide) (by decide)).mono ?_; rw [D3.out, D2.out]; rintro e w' ⟨rfl, rfl⟩
  go_wp2_with fail
  refine (pow _ _ _ (by decide) (by decide)).mono ?_; rw [D4.out]; rintro e w' ⟨rfl, rfl⟩
  go_wp2_with fail
  refine (parse leastText _ hl).mono ?_; rw [P.out.1, P.out.2]; rintro e w1 ⟨rfl, hb1⟩
  have hl1 := hl.below hb1
  go_wp2_with fail
  refine (dec _ _ (by decide) hl1).mono ?_; rintro e w2 ⟨rfl, hb2⟩
  go_wp2
  go_ret
  exact ⟨ret1 (by rw [least_itoa]; rfl), hb1.trans (hb2.mono hb1.size)⟩
end Go.Proofs.YtkfgcnomojopdaaDoor.NumC
