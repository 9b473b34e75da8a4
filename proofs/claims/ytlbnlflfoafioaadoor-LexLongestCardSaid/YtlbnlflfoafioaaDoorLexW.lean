/-
  The statements' own example of layer 4 (wakes) answers true.
-/
import Derived.Test.YtlbnlflfoafioaaDoorLexZ
import Derived.Test.YtlbnlflfoafioaaDoorLexG
namespace Go.Proofs.YtlbnlflfoafioaaDoor.LexC
set_option linter.unusedVariables false
open Go.RowKit Go.Proofs.YtlbnlflfoafioaaDoor.NumC

def b1 : ByteArray := { data := #[97, 49, 43, 34, 120, 34, 34, 121, 34, 60, 61, 48, 48, 55] }
def b2 : ByteArray := { data := #[49, 32, 43, 32, 36] }
theorem cut_b1 : cutL b1.data.toList = ⟨[⟨3, 0, str [65, 49], 0⟩, ⟨4, 0, str [43], 2⟩, ⟨2, 0, str [120, 34, 121], 3⟩, ⟨4, 0, str [60, 61], 9⟩, ⟨1, 7, str [], 11⟩], 0, 0⟩ := by decide +kernel
theorem cut_b2 : cutL b2.data.toList = ⟨[], 4, 12⟩ := by decide +kernel
theorem quote_b : quL [97, 34] = [34, 97, 34, 34, 34] := by decide

set_option maxRecDepth 100000 in
set_option maxHeartbeats 2000000 in
theorem wakes (w : World) (hl : LexLib w) :
    Calls Tryd.prog 7 #[] w fun e w' => e = .returned (.bool true) ∧ Below w.heap.size w w' := by
  have C1 := Lib.hid cut_b1
  have C2 := Lib.hid cut_b2
  have Q : Hid (str (quL [97, 34]) = { data := #[34, 97, 34, 34, 34] }) := Lib.hid (by rw [quote_b]; rfl)
  have T1 : (({ data := #[65, 49] } : ByteArray).toList == [65, 49]) = true := by rw [Lib.toList_data]; rfl
  have T2 : (({ data := #[120, 34, 121] } : ByteArray).toList == [120, 34, 121]) = true := by rw [Lib.toList_data]; rfl
  have T3 : (({ data := #[60, 61] } : ByteArray).toList == [60, 61]) = true := by rw [Lib.toList_data]; rfl
  have T4 : (({ data := #[34, 97, 34, 34, 34] } : ByteArray).toList == [34, 97, 34, 34, 34]) = true := by rw [Lib.toList_data]; rfl
  go_enter Tryd.func7, Tryd.ntmps7
  go_wp2_with fail
  refine (cut b1 _ (by decide) hl).mono ?_; rw [C1.out]; rintro e w1 ⟨v1, rfl, ho1, hb1⟩
  obtain ⟨A1, c1, rfl, ht1⟩ := (tokAt_own ho1).form
  obtain ⟨g, rfl, x0⟩ := ht1 0 (by simp)
  have q0 : w1.cell? ⟨g, 2, none⟩ = some (.string { data := #[65, 49] }) := x0.2.2.1
  obtain ⟨g2, e2, x2⟩ := ht1 2 (by simp)
  obtain rfl : g = g2 := by injection e2 with e2; injection e2
  have q2 : w1.cell? ⟨g, 10, none⟩ = some (.string { data := #[120, 34, 121] }) := x2.2.2.1
  obtain ⟨g2, e3, x3⟩ := ht1 3 (by simp)
  obtain rfl : g = g2 := by injection e3 with e3; injection e3
  have q3 : w1.cell? ⟨g, 14, none⟩ = some (.string { data := #[60, 61] }) := x3.2.2.1
  obtain ⟨g2, e4, x4⟩ := ht1 4 (by simp)
  obtain rfl : g = g2 := by injection e4 with e4; injection e4
  have q4 : w1.cell? ⟨g, 17, none⟩ = some (.int .i64 7) := x4.2.1
  clear x0 x2 x3 x4 ht1 ho1 e2 e3 e4
  go_wp2_with fail
  refine (cut b2 _ (by decide) (hl.below hb1)).mono ?_; rw [C2.out]; rintro e w2 ⟨v2, rfl, ho2, hb2⟩
  clear ho2
  replace q0 := cell_later hb2 q0; replace q2 := cell_later hb2 q2; replace q3 := cell_later hb2 q3; replace q4 := cell_later hb2 q4
  go_wp2_with fail
  refine (quote { data := #[97, 34] } _ (by decide) ((hl.below hb1).below hb2)).mono ?_
  rw [show ({ data := #[97, 34] } : ByteArray).data.toList = [97, 34] from rfl, Q.out]; rintro e w3 ⟨rfl, hb3⟩
  have B := (hb1.trans (hb2.mono hb1.size)).trans (hb3.mono (Nat.le_trans hb1.size hb2.size))
  go_wp2
  go_ret
  exact ⟨ret1 (by simp), B⟩
end Go.Proofs.YtlbnlflfoafioaaDoor.LexC
