/-
  The walk of the statement AddrMeets: for all arguments it answers true.
-/
import Derived.Test.YtogahgbfdmfmcaaDoorAddrL4
import Derived.Test.YtogahgbfdmfmcaaDoorAddrN
import Derived.Deep.LoopGhost
namespace Go.Proofs.YtogahgbfdmfmcaaDoor.AddrC
set_option linter.unusedVariables false
open Go.RowKit Go.Proofs.YtogahgbfdmfmcaaDoor.NumC

theorem lo_nat (x y : Nat) : ∃ m : Nat, lo x y = m ∧ (m = x ∨ m = y) ∧ m ≤ x ∧ m ≤ y := by
  unfold lo; split
  · exact ⟨y, rfl, Or.inr rfl, by omega, by omega⟩
  · exact ⟨x, rfl, Or.inl rfl, by omega, by omega⟩
theorem hi_nat (x y : Nat) : ∃ m : Nat, hi x y = m ∧ (m = x ∨ m = y) ∧ x ≤ m ∧ y ≤ m := by
  unfold hi; split
  · exact ⟨y, rfl, Or.inr rfl, by omega, by omega⟩
  · exact ⟨x, rfl, Or.inl rfl, by omega, by omega⟩
theorem meetV {a b c d a' b' c' d' : Int} {v : Bool} (h : meetB a b c d a' b' c' d' = v) (w : World) :
    Calls Tryd.prog 23 #[.agg #[.int .i64 a, .int .i64 b, .int .i64 c, .int .i64 d], .agg #[.int .i64 a', .int .i64 b', .int .i64 c', .int .i64 d']] w fun e w' => e = .returned (.bool v) ∧ Below w.heap.size w w' := by rw [← h]; exact meet a b c d a' b' c' d' w
theorem inR_int (r s t u x y : Nat) : hasB r s t u ((x : Int) + 1) ((y : Int) + 1) = inR r s t u (x + 1) (y + 1) := rfl

set_option maxRecDepth 100000 in
set_option maxHeartbeats 8000000 in
theorem addrMeets_of (n0 n1 n2 n3 n4 n5 n6 n7 : Int) (l0 l1 l2 l3 l4 l5 l6 l7 R S T U R' S' T' U' : Nat) (w : World) (hL : LibIs w)
    (b0 : 0 ≤ n0 ∧ n0 ≤ 255) (b1 : 0 ≤ n1 ∧ n1 ≤ 255) (b2 : 0 ≤ n2 ∧ n2 ≤ 255) (b3 : 0 ≤ n3 ∧ n3 ≤ 255) (b4 : 0 ≤ n4 ∧ n4 ≤ 255) (b5 : 0 ≤ n5 ∧ n5 ≤ 255) (b6 : 0 ≤ n6 ∧ n6 ≤ 255) (b7 : 0 ≤ n7 ∧ n7 ≤ 255)
    (e0 : 1 + n0 % 9 = l0) (e1 : 1 + n1 % 9 = l1) (e2 : 1 + n2 % 9 = l2) (e3 : 1 + n3 % 9 = l3) (e4 : 1 + n4 % 9 = l4) (e5 : 1 + n5 % 9 = l5) (e6 : 1 + n6 % 9 = l6) (e7 : 1 + n7 % 9 = l7)
    (c0 : 1 ≤ l0 ∧ l0 ≤ 9) (c1 : 1 ≤ l1 ∧ l1 ≤ 9) (c2 : 1 ≤ l2 ∧ l2 ≤ 9) (c3 : 1 ≤ l3 ∧ l3 ≤ 9) (c4 : 1 ≤ l4 ∧ l4 ≤ 9) (c5 : 1 ≤ l5 ∧ l5 ≤ 9) (c6 : 1 ≤ l6 ∧ l6 ≤ 9) (c7 : 1 ≤ l7 ∧ l7 ≤ 9)
    (hR : lo l0 l2 = R) (hS : lo l1 l3 = S) (hT : hi l0 l2 = T) (hU : hi l1 l3 = U) (hR' : lo l4 l6 = R') (hS' : lo l5 l7 = S') (hT' : hi l4 l6 = T') (hU' : hi l5 l7 = U')
    (N1 : Nine R S T U) (N2 : Nine R' S' T' U') :
    Calls Tryd.prog 6 #[.agg #[.int .u8 n0, .int .u8 n1, .int .u8 n2, .int .u8 n3, .int .u8 n4, .int .u8 n5, .int .u8 n6, .int .u8 n7]] w fun e w' => e = .returned (.bool true) ∧ Below w.heap.size w w' := by
  have M1 := Lib.hid fun w => madeAs (show Cell l0 l1 by unfold Cell; omega) (show Cell l2 l3 by unfold Cell; omega) hR hS hT hU w
  have M2 := Lib.hid fun w => madeAs (show Cell l4 l5 by unfold Cell; omega) (show Cell l6 l7 by unfold Cell; omega) hR' hS' hT' hU' w
  have P1 := Lib.hid N1; have P2 := Lib.hid N2
  clear hR hS hT hU hR' hS' hT' hU' N1 N2
  have K0 : ((w.alloc (.cells #[.int .u8 n0, .int .u8 n1, .int .u8 n2, .int .u8 n3, .int .u8 n4, .int .u8 n5, .int .u8 n6, .int .u8 n7] 48)).alloc (.cells #[.int .i64 0, .int .i64 0, .int .i64 0, .int .i64 0, .int .i64 0, .int .i64 0, .int .i64 0, .int .i64 0] 49)).cell? ⟨w.heap.size, 0, none⟩ = some (.int .u8 n0) := by simp [go_sem]
  have K1 : ((w.alloc (.cells #[.int .u8 n0, .int .u8 n1, .int .u8 n2, .int .u8 n3, .int .u8 n4, .int .u8 n5, .int .u8 n6, .int .u8 n7] 48)).alloc (.cells #[.int .i64 0, .int .i64 0, .int .i64 0, .int .i64 0, .int .i64 0, .int .i64 0, .int .i64 0, .int .i64 0] 49)).cell? ⟨w.heap.size, 1, none⟩ = some (.int .u8 n1) := by simp [go_sem]
  have K2 : ((w.alloc (.cells #[.int .u8 n0, .int .u8 n1, .int .u8 n2, .int .u8 n3, .int .u8 n4, .int .u8 n5, .int .u8 n6, .int .u8 n7] 48)).alloc (.cells #[.int .i64 0, .int .i64 0, .int .i64 0, .int .i64 0, .int .i64 0, .int .i64 0, .int .i64 0, .int .i64 0] 49)).cell? ⟨w.heap.size, 2, none⟩ = some (.int .u8 n2) := by simp [go_sem]
  have K3 : ((w.alloc (.cells #[.int .u8 n0, .int .u8 n1, .int .u8 n2, .int .u8 n3, .int .u8 n4, .int .u8 n5, .int .u8 n6, .int .u8 n7] 48)).alloc (.cells #[.int .i64 0, .int .i64 0, .int .i64 0, .int .i64 0, .int .i64 0, .int .i64 0, .int .i64 0, .int .i64 0] 49)).cell? ⟨w.heap.size, 3, none⟩ = some (.int .u8 n3) := by simp [go_sem]
  have K4 : ((w.alloc (.cells #[.int .u8 n0, .int .u8 n1, .int .u8 n2, .int .u8 n3, .int .u8 n4, .int .u8 n5, .int .u8 n6, .int .u8 n7] 48)).alloc (.cells #[.int .i64 0, .int .i64 0, .int .i64 0, .int .i64 0, .int .i64 0, .int .i64 0, .int .i64 0, .int .i64 0] 49)).cell? ⟨w.heap.size, 4, none⟩ = some (.int .u8 n4) := by simp [go_sem]
  have K5 : ((w.alloc (.cells #[.int .u8 n0, .int .u8 n1, .int .u8 n2, .int .u8 n3, .int .u8 n4, .int .u8 n5, .int .u8 n6, .int .u8 n7] 48)).alloc (.cells #[.int .i64 0, .int .i64 0, .int .i64 0, .int .i64 0, .int .i64 0, .int .i64 0, .int .i64 0, .int .i64 0] 49)).cell? ⟨w.heap.size, 5, none⟩ = some (.int .u8 n5) := by simp [go_sem]
  have K6 : ((w.alloc (.cells #[.int .u8 n0, .int .u8 n1, .int .u8 n2, .int .u8 n3, .int .u8 n4, .int .u8 n5, .int .u8 n6, .int .u8 n7] 48)).alloc (.cells #[.int .i64 0, .int .i64 0, .int .i64 0, .int .i64 0, .int .i64 0, .int .i64 0, .int .i64 0, .int .i64 0] 49)).cell? ⟨w.heap.size, 6, none⟩ = some (.int .u8 n6) := by simp [go_sem]
  have K7 : ((w.alloc (.cells #[.int .u8 n0, .int .u8 n1, .int .u8 n2, .int .u8 n3, .int .u8 n4, .int .u8 n5, .int .u8 n6, .int .u8 n7] 48)).alloc (.cells #[.int .i64 0, .int .i64 0, .int .i64 0, .int .i64 0, .int .i64 0, .int .i64 0, .int .i64 0, .int .i64 0] 49)).cell? ⟨w.heap.size, 7, none⟩ = some (.int .u8 n7) := by simp [go_sem]
  have A0 : ((w.alloc (.cells #[.int .u8 n0, .int .u8 n1, .int .u8 n2, .int .u8 n3, .int .u8 n4, .int .u8 n5, .int .u8 n6, .int .u8 n7] 48)).alloc (.cells #[.int .i64 0, .int .i64 0, .int .i64 0, .int .i64 0, .int .i64 0, .int .i64 0, .int .i64 0, .int .i64 0] 49)).cell? ⟨w.heap.size + 1, 0, none⟩ = some (.int .i64 0) := by simp [go_sem]
  have A1 : ((w.alloc (.cells #[.int .u8 n0, .int .u8 n1, .int .u8 n2, .int .u8 n3, .int .u8 n4, .int .u8 n5, .int .u8 n6, .int .u8 n7] 48)).alloc (.cells #[.int .i64 0, .int .i64 0, .int .i64 0, .int .i64 0, .int .i64 0, .int .i64 0, .int .i64 0, .int .i64 0] 49)).cell? ⟨w.heap.size + 1, 1, none⟩ = some (.int .i64 0) := by simp [go_sem]
  have A2 : ((w.alloc (.cells #[.int .u8 n0, .int .u8 n1, .int .u8 n2, .int .u8 n3, .int .u8 n4, .int .u8 n5, .int .u8 n6, .int .u8 n7] 48)).alloc (.cells #[.int .i64 0, .int .i64 0, .int .i64 0, .int .i64 0, .int .i64 0, .int .i64 0, .int .i64 0, .int .i64 0] 49)).cell? ⟨w.heap.size + 1, 2, none⟩ = some (.int .i64 0) := by simp [go_sem]
  have A3 : ((w.alloc (.cells #[.int .u8 n0, .int .u8 n1, .int .u8 n2, .int .u8 n3, .int .u8 n4, .int .u8 n5, .int .u8 n6, .int .u8 n7] 48)).alloc (.cells #[.int .i64 0, .int .i64 0, .int .i64 0, .int .i64 0, .int .i64 0, .int .i64 0, .int .i64 0, .int .i64 0] 49)).cell? ⟨w.heap.size + 1, 3, none⟩ = some (.int .i64 0) := by simp [go_sem]
  have A4 : ((w.alloc (.cells #[.int .u8 n0, .int .u8 n1, .int .u8 n2, .int .u8 n3, .int .u8 n4, .int .u8 n5, .int .u8 n6, .int .u8 n7] 48)).alloc (.cells #[.int .i64 0, .int .i64 0, .int .i64 0, .int .i64 0, .int .i64 0, .int .i64 0, .int .i64 0, .int .i64 0] 49)).cell? ⟨w.heap.size + 1, 4, none⟩ = some (.int .i64 0) := by simp [go_sem]
  have A5 : ((w.alloc (.cells #[.int .u8 n0, .int .u8 n1, .int .u8 n2, .int .u8 n3, .int .u8 n4, .int .u8 n5, .int .u8 n6, .int .u8 n7] 48)).alloc (.cells #[.int .i64 0, .int .i64 0, .int .i64 0, .int .i64 0, .int .i64 0, .int .i64 0, .int .i64 0, .int .i64 0] 49)).cell? ⟨w.heap.size + 1, 5, none⟩ = some (.int .i64 0) := by simp [go_sem]
  have A6 : ((w.alloc (.cells #[.int .u8 n0, .int .u8 n1, .int .u8 n2, .int .u8 n3, .int .u8 n4, .int .u8 n5, .int .u8 n6, .int .u8 n7] 48)).alloc (.cells #[.int .i64 0, .int .i64 0, .int .i64 0, .int .i64 0, .int .i64 0, .int .i64 0, .int .i64 0, .int .i64 0] 49)).cell? ⟨w.heap.size + 1, 6, none⟩ = some (.int .i64 0) := by simp [go_sem]
  have A7 : ((w.alloc (.cells #[.int .u8 n0, .int .u8 n1, .int .u8 n2, .int .u8 n3, .int .u8 n4, .int .u8 n5, .int .u8 n6, .int .u8 n7] 48)).alloc (.cells #[.int .i64 0, .int .i64 0, .int .i64 0, .int .i64 0, .int .i64 0, .int .i64 0, .int .i64 0, .int .i64 0] 49)).cell? ⟨w.heap.size + 1, 7, none⟩ = some (.int .i64 0) := by simp [go_sem]
  have Z0 : ((w.alloc (.cells #[.int .u8 n0, .int .u8 n1, .int .u8 n2, .int .u8 n3, .int .u8 n4, .int .u8 n5, .int .u8 n6, .int .u8 n7] 48)).alloc (.cells #[.int .i64 0, .int .i64 0, .int .i64 0, .int .i64 0, .int .i64 0, .int .i64 0, .int .i64 0, .int .i64 0] 49)).frozen? ⟨w.heap.size + 1, 0, none⟩ = false := by simp [go_sem]
  have Z1 : ((w.alloc (.cells #[.int .u8 n0, .int .u8 n1, .int .u8 n2, .int .u8 n3, .int .u8 n4, .int .u8 n5, .int .u8 n6, .int .u8 n7] 48)).alloc (.cells #[.int .i64 0, .int .i64 0, .int .i64 0, .int .i64 0, .int .i64 0, .int .i64 0, .int .i64 0, .int .i64 0] 49)).frozen? ⟨w.heap.size + 1, 1, none⟩ = false := by simp [go_sem]
  have Z2 : ((w.alloc (.cells #[.int .u8 n0, .int .u8 n1, .int .u8 n2, .int .u8 n3, .int .u8 n4, .int .u8 n5, .int .u8 n6, .int .u8 n7] 48)).alloc (.cells #[.int .i64 0, .int .i64 0, .int .i64 0, .int .i64 0, .int .i64 0, .int .i64 0, .int .i64 0, .int .i64 0] 49)).frozen? ⟨w.heap.size + 1, 2, none⟩ = false := by simp [go_sem]
  have Z3 : ((w.alloc (.cells #[.int .u8 n0, .int .u8 n1, .int .u8 n2, .int .u8 n3, .int .u8 n4, .int .u8 n5, .int .u8 n6, .int .u8 n7] 48)).alloc (.cells #[.int .i64 0, .int .i64 0, .int .i64 0, .int .i64 0, .int .i64 0, .int .i64 0, .int .i64 0, .int .i64 0] 49)).frozen? ⟨w.heap.size + 1, 3, none⟩ = false := by simp [go_sem]
  have Z4 : ((w.alloc (.cells #[.int .u8 n0, .int .u8 n1, .int .u8 n2, .int .u8 n3, .int .u8 n4, .int .u8 n5, .int .u8 n6, .int .u8 n7] 48)).alloc (.cells #[.int .i64 0, .int .i64 0, .int .i64 0, .int .i64 0, .int .i64 0, .int .i64 0, .int .i64 0, .int .i64 0] 49)).frozen? ⟨w.heap.size + 1, 4, none⟩ = false := by simp [go_sem]
  have Z5 : ((w.alloc (.cells #[.int .u8 n0, .int .u8 n1, .int .u8 n2, .int .u8 n3, .int .u8 n4, .int .u8 n5, .int .u8 n6, .int .u8 n7] 48)).alloc (.cells #[.int .i64 0, .int .i64 0, .int .i64 0, .int .i64 0, .int .i64 0, .int .i64 0, .int .i64 0, .int .i64 0] 49)).frozen? ⟨w.heap.size + 1, 5, none⟩ = false := by simp [go_sem]
  have Z6 : ((w.alloc (.cells #[.int .u8 n0, .int .u8 n1, .int .u8 n2, .int .u8 n3, .int .u8 n4, .int .u8 n5, .int .u8 n6, .int .u8 n7] 48)).alloc (.cells #[.int .i64 0, .int .i64 0, .int .i64 0, .int .i64 0, .int .i64 0, .int .i64 0, .int .i64 0, .int .i64 0] 49)).frozen? ⟨w.heap.size + 1, 6, none⟩ = false := by simp [go_sem]
  have Z7 : ((w.alloc (.cells #[.int .u8 n0, .int .u8 n1, .int .u8 n2, .int .u8 n3, .int .u8 n4, .int .u8 n5, .int .u8 n6, .int .u8 n7] 48)).alloc (.cells #[.int .i64 0, .int .i64 0, .int .i64 0, .int .i64 0, .int .i64 0, .int .i64 0, .int .i64 0, .int .i64 0] 49)).frozen? ⟨w.heap.size + 1, 7, none⟩ = false := by simp [go_sem]
  have B : Below w.heap.size w ((w.alloc (.cells #[.int .u8 n0, .int .u8 n1, .int .u8 n2, .int .u8 n3, .int .u8 n4, .int .u8 n5, .int .u8 n6, .int .u8 n7] 48)).alloc (.cells #[.int .i64 0, .int .i64 0, .int .i64 0, .int .i64 0, .int .i64 0, .int .i64 0, .int .i64 0, .int .i64 0] 49)) := grown.trans (grown.mono grown.size)
  go_enter Tryd.func6, Tryd.ntmps6
  go_wp2_with fail
  generalize hW : ((w.alloc (.cells #[.int .u8 n0, .int .u8 n1, .int .u8 n2, .int .u8 n3, .int .u8 n4, .int .u8 n5, .int .u8 n6, .int .u8 n7] 48)).alloc (.cells #[.int .i64 0, .int .i64 0, .int .i64 0, .int .i64 0, .int .i64 0, .int .i64 0, .int .i64 0, .int .i64 0] 49)) = V0 at *
  clear hW
  refine wp_loop_rounds 9 ?_
  rw [rounds_succ]
  go_wp2_with fail
  have K1' : (V0.setCell ⟨w.heap.size + 1, 0, none⟩ (.int .i64 l0)).cell? ⟨w.heap.size, 1, none⟩ = some (.int .u8 n1) := by simp [go_sem, K1]
  have K2' : (V0.setCell ⟨w.heap.size + 1, 0, none⟩ (.int .i64 l0)).cell? ⟨w.heap.size, 2, none⟩ = some (.int .u8 n2) := by simp [go_sem, K2]
  have K3' : (V0.setCell ⟨w.heap.size + 1, 0, none⟩ (.int .i64 l0)).cell? ⟨w.heap.size, 3, none⟩ = some (.int .u8 n3) := by simp [go_sem, K3]
  have K4' : (V0.setCell ⟨w.heap.size + 1, 0, none⟩ (.int .i64 l0)).cell? ⟨w.heap.size, 4, none⟩ = some (.int .u8 n4) := by simp [go_sem, K4]
  have K5' : (V0.setCell ⟨w.heap.size + 1, 0, none⟩ (.int .i64 l0)).cell? ⟨w.heap.size, 5, none⟩ = some (.int .u8 n5) := by simp [go_sem, K5]
  have K6' : (V0.setCell ⟨w.heap.size + 1, 0, none⟩ (.int .i64 l0)).cell? ⟨w.heap.size, 6, none⟩ = some (.int .u8 n6) := by simp [go_sem, K6]
  have K7' : (V0.setCell ⟨w.heap.size + 1, 0, none⟩ (.int .i64 l0)).cell? ⟨w.heap.size, 7, none⟩ = some (.int .u8 n7) := by simp [go_sem, K7]
  have A0' : (V0.setCell ⟨w.heap.size + 1, 0, none⟩ (.int .i64 l0)).cell? ⟨w.heap.size + 1, 0, none⟩ = some (.int .i64 l0) := by simp [go_sem, A0]
  have A1' : (V0.setCell ⟨w.heap.size + 1, 0, none⟩ (.int .i64 l0)).cell? ⟨w.heap.size + 1, 1, none⟩ = some (.int .i64 0) := by simp [go_sem, A1]
  have A2' : (V0.setCell ⟨w.heap.size + 1, 0, none⟩ (.int .i64 l0)).cell? ⟨w.heap.size + 1, 2, none⟩ = some (.int .i64 0) := by simp [go_sem, A2]
  have A3' : (V0.setCell ⟨w.heap.size + 1, 0, none⟩ (.int .i64 l0)).cell? ⟨w.heap.size + 1, 3, none⟩ = some (.int .i64 0) := by simp [go_sem, A3]
  have A4' : (V0.setCell ⟨w.heap.size + 1, 0, none⟩ (.int .i64 l0)).cell? ⟨w.heap.size + 1, 4, none⟩ = some (.int .i64 0) := by simp [go_sem, A4]
  have A5' : (V0.setCell ⟨w.heap.size + 1, 0, none⟩ (.int .i64 l0)).cell? ⟨w.heap.size + 1, 5, none⟩ = some (.int .i64 0) := by simp [go_sem, A5]
  have A6' : (V0.setCell ⟨w.heap.size + 1, 0, none⟩ (.int .i64 l0)).cell? ⟨w.heap.size + 1, 6, none⟩ = some (.int .i64 0) := by simp [go_sem, A6]
  have A7' : (V0.setCell ⟨w.heap.size + 1, 0, none⟩ (.int .i64 l0)).cell? ⟨w.heap.size + 1, 7, none⟩ = some (.int .i64 0) := by simp [go_sem, A7]
  have Z1' : (V0.setCell ⟨w.heap.size + 1, 0, none⟩ (.int .i64 l0)).frozen? ⟨w.heap.size + 1, 1, none⟩ = false := by simp [go_sem, Z1]
  have Z2' : (V0.setCell ⟨w.heap.size + 1, 0, none⟩ (.int .i64 l0)).frozen? ⟨w.heap.size + 1, 2, none⟩ = false := by simp [go_sem, Z2]
  have Z3' : (V0.setCell ⟨w.heap.size + 1, 0, none⟩ (.int .i64 l0)).frozen? ⟨w.heap.size + 1, 3, none⟩ = false := by simp [go_sem, Z3]
  have Z4' : (V0.setCell ⟨w.heap.size + 1, 0, none⟩ (.int .i64 l0)).frozen? ⟨w.heap.size + 1, 4, none⟩ = false := by simp [go_sem, Z4]
  have Z5' : (V0.setCell ⟨w.heap.size + 1, 0, none⟩ (.int .i64 l0)).frozen? ⟨w.heap.size + 1, 5, none⟩ = false := by simp [go_sem, Z5]
  have Z6' : (V0.setCell ⟨w.heap.size + 1, 0, none⟩ (.int .i64 l0)).frozen? ⟨w.heap.size + 1, 6, none⟩ = false := by simp [go_sem, Z6]
  have Z7' : (V0.setCell ⟨w.heap.size + 1, 0, none⟩ (.int .i64 l0)).frozen? ⟨w.heap.size + 1, 7, none⟩ = false := by simp [go_sem, Z7]
  have B' : Below w.heap.size w (V0.setCell ⟨w.heap.size + 1, 0, none⟩ (.int .i64 l0)) := B.setCell (by simp) _
  clear K0 K1 K2 K3 K4 K5 K6 K7 A0 A1 A2 A3 A4 A5 A6 A7 Z0 Z1 Z2 Z3 Z4 Z5 Z6 Z7 B
  have K1 := K1'
  have K2 := K2'
  have K3 := K3'
  have K4 := K4'
  have K5 := K5'
  have K6 := K6'
  have K7 := K7'
  have A0 := A0'
  have A1 := A1'
  have A2 := A2'
  have A3 := A3'
  have A4 := A4'
  have A5 := A5'
  have A6 := A6'
  have A7 := A7'
  have Z1 := Z1'
  have Z2 := Z2'
  have Z3 := Z3'
  have Z4 := Z4'
  have Z5 := Z5'
  have Z6 := Z6'
  have Z7 := Z7'
  have B := B'
  clear K1' K2' K3' K4' K5' K6' K7' A0' A1' A2' A3' A4' A5' A6' A7' Z1' Z2' Z3' Z4' Z5' Z6' Z7' B'
  generalize hW : (V0.setCell ⟨w.heap.size + 1, 0, none⟩ (.int .i64 l0)) = V1 at *
  clear hW
  rw [rounds_succ]
  go_wp2_with fail
  have K2' : (V1.setCell ⟨w.heap.size + 1, 1, none⟩ (.int .i64 l1)).cell? ⟨w.heap.size, 2, none⟩ = some (.int .u8 n2) := by simp [go_sem, K2]
  have K3' : (V1.setCell ⟨w.heap.size + 1, 1, none⟩ (.int .i64 l1)).cell? ⟨w.heap.size, 3, none⟩ = some (.int .u8 n3) := by simp [go_sem, K3]
  have K4' : (V1.setCell ⟨w.heap.size + 1, 1, none⟩ (.int .i64 l1)).cell? ⟨w.heap.size, 4, none⟩ = some (.int .u8 n4) := by simp [go_sem, K4]
  have K5' : (V1.setCell ⟨w.heap.size + 1, 1, none⟩ (.int .i64 l1)).cell? ⟨w.heap.size, 5, none⟩ = some (.int .u8 n5) := by simp [go_sem, K5]
  have K6' : (V1.setCell ⟨w.heap.size + 1, 1, none⟩ (.int .i64 l1)).cell? ⟨w.heap.size, 6, none⟩ = some (.int .u8 n6) := by simp [go_sem, K6]
  have K7' : (V1.setCell ⟨w.heap.size + 1, 1, none⟩ (.int .i64 l1)).cell? ⟨w.heap.size, 7, none⟩ = some (.int .u8 n7) := by simp [go_sem, K7]
  have A0' : (V1.setCell ⟨w.heap.size + 1, 1, none⟩ (.int .i64 l1)).cell? ⟨w.heap.size + 1, 0, none⟩ = some (.int .i64 l0) := by simp [go_sem, A0]
  have A1' : (V1.setCell ⟨w.heap.size + 1, 1, none⟩ (.int .i64 l1)).cell? ⟨w.heap.size + 1, 1, none⟩ = some (.int .i64 l1) := by simp [go_sem, A1]
  have A2' : (V1.setCell ⟨w.heap.size + 1, 1, none⟩ (.int .i64 l1)).cell? ⟨w.heap.size + 1, 2, none⟩ = some (.int .i64 0) := by simp [go_sem, A2]
  have A3' : (V1.setCell ⟨w.heap.size + 1, 1, none⟩ (.int .i64 l1)).cell? ⟨w.heap.size + 1, 3, none⟩ = some (.int .i64 0) := by simp [go_sem, A3]
  have A4' : (V1.setCell ⟨w.heap.size + 1, 1, none⟩ (.int .i64 l1)).cell? ⟨w.heap.size + 1, 4, none⟩ = some (.int .i64 0) := by simp [go_sem, A4]
  have A5' : (V1.setCell ⟨w.heap.size + 1, 1, none⟩ (.int .i64 l1)).cell? ⟨w.heap.size + 1, 5, none⟩ = some (.int .i64 0) := by simp [go_sem, A5]
  have A6' : (V1.setCell ⟨w.heap.size + 1, 1, none⟩ (.int .i64 l1)).cell? ⟨w.heap.size + 1, 6, none⟩ = some (.int .i64 0) := by simp [go_sem, A6]
  have A7' : (V1.setCell ⟨w.heap.size + 1, 1, none⟩ (.int .i64 l1)).cell? ⟨w.heap.size + 1, 7, none⟩ = some (.int .i64 0) := by simp [go_sem, A7]
  have Z2' : (V1.setCell ⟨w.heap.size + 1, 1, none⟩ (.int .i64 l1)).frozen? ⟨w.heap.size + 1, 2, none⟩ = false := by simp [go_sem, Z2]
  have Z3' : (V1.setCell ⟨w.heap.size + 1, 1, none⟩ (.int .i64 l1)).frozen? ⟨w.heap.size + 1, 3, none⟩ = false := by simp [go_sem, Z3]
  have Z4' : (V1.setCell ⟨w.heap.size + 1, 1, none⟩ (.int .i64 l1)).frozen? ⟨w.heap.size + 1, 4, none⟩ = false := by simp [go_sem, Z4]
  have Z5' : (V1.setCell ⟨w.heap.size + 1, 1, none⟩ (.int .i64 l1)).frozen? ⟨w.heap.size + 1, 5, none⟩ = false := by simp [go_sem, Z5]
  have Z6' : (V1.setCell ⟨w.heap.size + 1, 1, none⟩ (.int .i64 l1)).frozen? ⟨w.heap.size + 1, 6, none⟩ = false := by simp [go_sem, Z6]
  have Z7' : (V1.setCell ⟨w.heap.size + 1, 1, none⟩ (.int .i64 l1)).frozen? ⟨w.heap.size + 1, 7, none⟩ = false := by simp [go_sem, Z7]
  have B' : Below w.heap.size w (V1.setCell ⟨w.heap.size + 1, 1, none⟩ (.int .i64 l1)) := B.setCell (by simp) _
  clear K1 K2 K3 K4 K5 K6 K7 A0 A1 A2 A3 A4 A5 A6 A7 Z1 Z2 Z3 Z4 Z5 Z6 Z7 B
  have K2 := K2'
  have K3 := K3'
  have K4 := K4'
  have K5 := K5'
  have K6 := K6'
  have K7 := K7'
  have A0 := A0'
  have A1 := A1'
  have A2 := A2'
  have A3 := A3'
  have A4 := A4'
  have A5 := A5'
  have A6 := A6'
  have A7 := A7'
  have Z2 := Z2'
  have Z3 := Z3'
  have Z4 := Z4'
  have Z5 := Z5'
  have Z6 := Z6'
  have Z7 := Z7'
  have B := B'
  clear K2' K3' K4' K5' K6' K7' A0' A1' A2' A3' A4' A5' A6' A7' Z2' Z3' Z4' Z5' Z6' Z7' B'
  generalize hW : (V1.setCell ⟨w.heap.size + 1, 1, none⟩ (.int .i64 l1)) = V2 at *
  clear hW
  rw [rounds_succ]
  go_wp2_with fail
  have K3' : (V2.setCell ⟨w.heap.size + 1, 2, none⟩ (.int .i64 l2)).cell? ⟨w.heap.size, 3, none⟩ = some (.int .u8 n3) := by simp [go_sem, K3]
  have K4' : (V2.setCell ⟨w.heap.size + 1, 2, none⟩ (.int .i64 l2)).cell? ⟨w.heap.size, 4, none⟩ = some (.int .u8 n4) := by simp [go_sem, K4]
  have K5' : (V2.setCell ⟨w.heap.size + 1, 2, none⟩ (.int .i64 l2)).cell? ⟨w.heap.size, 5, none⟩ = some (.int .u8 n5) := by simp [go_sem, K5]
  have K6' : (V2.setCell ⟨w.heap.size + 1, 2, none⟩ (.int .i64 l2)).cell? ⟨w.heap.size, 6, none⟩ = some (.int .u8 n6) := by simp [go_sem, K6]
  have K7' : (V2.setCell ⟨w.heap.size + 1, 2, none⟩ (.int .i64 l2)).cell? ⟨w.heap.size, 7, none⟩ = some (.int .u8 n7) := by simp [go_sem, K7]
  have A0' : (V2.setCell ⟨w.heap.size + 1, 2, none⟩ (.int .i64 l2)).cell? ⟨w.heap.size + 1, 0, none⟩ = some (.int .i64 l0) := by simp [go_sem, A0]
  have A1' : (V2.setCell ⟨w.heap.size + 1, 2, none⟩ (.int .i64 l2)).cell? ⟨w.heap.size + 1, 1, none⟩ = some (.int .i64 l1) := by simp [go_sem, A1]
  have A2' : (V2.setCell ⟨w.heap.size + 1, 2, none⟩ (.int .i64 l2)).cell? ⟨w.heap.size + 1, 2, none⟩ = some (.int .i64 l2) := by simp [go_sem, A2]
  have A3' : (V2.setCell ⟨w.heap.size + 1, 2, none⟩ (.int .i64 l2)).cell? ⟨w.heap.size + 1, 3, none⟩ = some (.int .i64 0) := by simp [go_sem, A3]
  have A4' : (V2.setCell ⟨w.heap.size + 1, 2, none⟩ (.int .i64 l2)).cell? ⟨w.heap.size + 1, 4, none⟩ = some (.int .i64 0) := by simp [go_sem, A4]
  have A5' : (V2.setCell ⟨w.heap.size + 1, 2, none⟩ (.int .i64 l2)).cell? ⟨w.heap.size + 1, 5, none⟩ = some (.int .i64 0) := by simp [go_sem, A5]
  have A6' : (V2.setCell ⟨w.heap.size + 1, 2, none⟩ (.int .i64 l2)).cell? ⟨w.heap.size + 1, 6, none⟩ = some (.int .i64 0) := by simp [go_sem, A6]
  have A7' : (V2.setCell ⟨w.heap.size + 1, 2, none⟩ (.int .i64 l2)).cell? ⟨w.heap.size + 1, 7, none⟩ = some (.int .i64 0) := by simp [go_sem, A7]
  have Z3' : (V2.setCell ⟨w.heap.size + 1, 2, none⟩ (.int .i64 l2)).frozen? ⟨w.heap.size + 1, 3, none⟩ = false := by simp [go_sem, Z3]
  have Z4' : (V2.setCell ⟨w.heap.size + 1, 2, none⟩ (.int .i64 l2)).frozen? ⟨w.heap.size + 1, 4, none⟩ = false := by simp [go_sem, Z4]
  have Z5' : (V2.setCell ⟨w.heap.size + 1, 2, none⟩ (.int .i64 l2)).frozen? ⟨w.heap.size + 1, 5, none⟩ = false := by simp [go_sem, Z5]
  have Z6' : (V2.setCell ⟨w.heap.size + 1, 2, none⟩ (.int .i64 l2)).frozen? ⟨w.heap.size + 1, 6, none⟩ = false := by simp [go_sem, Z6]
  have Z7' : (V2.setCell ⟨w.heap.size + 1, 2, none⟩ (.int .i64 l2)).frozen? ⟨w.heap.size + 1, 7, none⟩ = false := by simp [go_sem, Z7]
  have B' : Below w.heap.size w (V2.setCell ⟨w.heap.size + 1, 2, none⟩ (.int .i64 l2)) := B.setCell (by simp) _
  clear K2 K3 K4 K5 K6 K7 A0 A1 A2 A3 A4 A5 A6 A7 Z2 Z3 Z4 Z5 Z6 Z7 B
  have K3 := K3'
  have K4 := K4'
  have K5 := K5'
  have K6 := K6'
  have K7 := K7'
  have A0 := A0'
  have A1 := A1'
  have A2 := A2'
  have A3 := A3'
  have A4 := A4'
  have A5 := A5'
  have A6 := A6'
  have A7 := A7'
  have Z3 := Z3'
  have Z4 := Z4'
  have Z5 := Z5'
  have Z6 := Z6'
  have Z7 := Z7'
  have B := B'
  clear K3' K4' K5' K6' K7' A0' A1' A2' A3' A4' A5' A6' A7' Z3' Z4' Z5' Z6' Z7' B'
  generalize hW : (V2.setCell ⟨w.heap.size + 1, 2, none⟩ (.int .i64 l2)) = V3 at *
  clear hW
  rw [rounds_succ]
  go_wp2_with fail
  have K4' : (V3.setCell ⟨w.heap.size + 1, 3, none⟩ (.int .i64 l3)).cell? ⟨w.heap.size, 4, none⟩ = some (.int .u8 n4) := by simp [go_sem, K4]
  have K5' : (V3.setCell ⟨w.heap.size + 1, 3, none⟩ (.int .i64 l3)).cell? ⟨w.heap.size, 5, none⟩ = some (.int .u8 n5) := by simp [go_sem, K5]
  have K6' : (V3.setCell ⟨w.heap.size + 1, 3, none⟩ (.int .i64 l3)).cell? ⟨w.heap.size, 6, none⟩ = some (.int .u8 n6) := by simp [go_sem, K6]
  have K7' : (V3.setCell ⟨w.heap.size + 1, 3, none⟩ (.int .i64 l3)).cell? ⟨w.heap.size, 7, none⟩ = some (.int .u8 n7) := by simp [go_sem, K7]
  have A0' : (V3.setCell ⟨w.heap.size + 1, 3, none⟩ (.int .i64 l3)).cell? ⟨w.heap.size + 1, 0, none⟩ = some (.int .i64 l0) := by simp [go_sem, A0]
  have A1' : (V3.setCell ⟨w.heap.size + 1, 3, none⟩ (.int .i64 l3)).cell? ⟨w.heap.size + 1, 1, none⟩ = some (.int .i64 l1) := by simp [go_sem, A1]
  have A2' : (V3.setCell ⟨w.heap.size + 1, 3, none⟩ (.int .i64 l3)).cell? ⟨w.heap.size + 1, 2, none⟩ = some (.int .i64 l2) := by simp [go_sem, A2]
  have A3' : (V3.setCell ⟨w.heap.size + 1, 3, none⟩ (.int .i64 l3)).cell? ⟨w.heap.size + 1, 3, none⟩ = some (.int .i64 l3) := by simp [go_sem, A3]
  have A4' : (V3.setCell ⟨w.heap.size + 1, 3, none⟩ (.int .i64 l3)).cell? ⟨w.heap.size + 1, 4, none⟩ = some (.int .i64 0) := by simp [go_sem, A4]
  have A5' : (V3.setCell ⟨w.heap.size + 1, 3, none⟩ (.int .i64 l3)).cell? ⟨w.heap.size + 1, 5, none⟩ = some (.int .i64 0) := by simp [go_sem, A5]
  have A6' : (V3.setCell ⟨w.heap.size + 1, 3, none⟩ (.int .i64 l3)).cell? ⟨w.heap.size + 1, 6, none⟩ = some (.int .i64 0) := by simp [go_sem, A6]
  have A7' : (V3.setCell ⟨w.heap.size + 1, 3, none⟩ (.int .i64 l3)).cell? ⟨w.heap.size + 1, 7, none⟩ = some (.int .i64 0) := by simp [go_sem, A7]
  have Z4' : (V3.setCell ⟨w.heap.size + 1, 3, none⟩ (.int .i64 l3)).frozen? ⟨w.heap.size + 1, 4, none⟩ = false := by simp [go_sem, Z4]
  have Z5' : (V3.setCell ⟨w.heap.size + 1, 3, none⟩ (.int .i64 l3)).frozen? ⟨w.heap.size + 1, 5, none⟩ = false := by simp [go_sem, Z5]
  have Z6' : (V3.setCell ⟨w.heap.size + 1, 3, none⟩ (.int .i64 l3)).frozen? ⟨w.heap.size + 1, 6, none⟩ = false := by simp [go_sem, Z6]
  have Z7' : (V3.setCell ⟨w.heap.size + 1, 3, none⟩ (.int .i64 l3)).frozen? ⟨w.heap.size + 1, 7, none⟩ = false := by simp [go_sem, Z7]
  have B' : Below w.heap.size w (V3.setCell ⟨w.heap.size + 1, 3, none⟩ (.int .i64 l3)) := B.setCell (by simp) _
  clear K3 K4 K5 K6 K7 A0 A1 A2 A3 A4 A5 A6 A7 Z3 Z4 Z5 Z6 Z7 B
  have K4 := K4'
  have K5 := K5'
  have K6 := K6'
  have K7 := K7'
  have A0 := A0'
  have A1 := A1'
  have A2 := A2'
  have A3 := A3'
  have A4 := A4'
  have A5 := A5'
  have A6 := A6'
  have A7 := A7'
  have Z4 := Z4'
  have Z5 := Z5'
  have Z6 := Z6'
  have Z7 := Z7'
  have B := B'
  clear K4' K5' K6' K7' A0' A1' A2' A3' A4' A5' A6' A7' Z4' Z5' Z6' Z7' B'
  generalize hW : (V3.setCell ⟨w.heap.size + 1, 3, none⟩ (.int .i64 l3)) = V4 at *
  clear hW
  rw [rounds_succ]
  go_wp2_with fail
  have K5' : (V4.setCell ⟨w.heap.size + 1, 4, none⟩ (.int .i64 l4)).cell? ⟨w.heap.size, 5, none⟩ = some (.int .u8 n5) := by simp [go_sem, K5]
  have K6' : (V4.setCell ⟨w.heap.size + 1, 4, none⟩ (.int .i64 l4)).cell? ⟨w.heap.size, 6, none⟩ = some (.int .u8 n6) := by simp [go_sem, K6]
  have K7' : (V4.setCell ⟨w.heap.size + 1, 4, none⟩ (.int .i64 l4)).cell? ⟨w.heap.size, 7, none⟩ = some (.int .u8 n7) := by simp [go_sem, K7]
  have A0' : (V4.setCell ⟨w.heap.size + 1, 4, none⟩ (.int .i64 l4)).cell? ⟨w.heap.size + 1, 0, none⟩ = some (.int .i64 l0) := by simp [go_sem, A0]
  have A1' : (V4.setCell ⟨w.heap.size + 1, 4, none⟩ (.int .i64 l4)).cell? ⟨w.heap.size + 1, 1, none⟩ = some (.int .i64 l1) := by simp [go_sem, A1]
  have A2' : (V4.setCell ⟨w.heap.size + 1, 4, none⟩ (.int .i64 l4)).cell? ⟨w.heap.size + 1, 2, none⟩ = some (.int .i64 l2) := by simp [go_sem, A2]
  have A3' : (V4.setCell ⟨w.heap.size + 1, 4, none⟩ (.int .i64 l4)).cell? ⟨w.heap.size + 1, 3, none⟩ = some (.int .i64 l3) := by simp [go_sem, A3]
  have A4' : (V4.setCell ⟨w.heap.size + 1, 4, none⟩ (.int .i64 l4)).cell? ⟨w.heap.size + 1, 4, none⟩ = some (.int .i64 l4) := by simp [go_sem, A4]
  have A5' : (V4.setCell ⟨w.heap.size + 1, 4, none⟩ (.int .i64 l4)).cell? ⟨w.heap.size + 1, 5, none⟩ = some (.int .i64 0) := by simp [go_sem, A5]
  have A6' : (V4.setCell ⟨w.heap.size + 1, 4, none⟩ (.int .i64 l4)).cell? ⟨w.heap.size + 1, 6, none⟩ = some (.int .i64 0) := by simp [go_sem, A6]
  have A7' : (V4.setCell ⟨w.heap.size + 1, 4, none⟩ (.int .i64 l4)).cell? ⟨w.heap.size + 1, 7, none⟩ = some (.int .i64 0) := by simp [go_sem, A7]
  have Z5' : (V4.setCell ⟨w.heap.size + 1, 4, none⟩ (.int .i64 l4)).frozen? ⟨w.heap.size + 1, 5, none⟩ = false := by simp [go_sem, Z5]
  have Z6' : (V4.setCell ⟨w.heap.size + 1, 4, none⟩ (.int .i64 l4)).frozen? ⟨w.heap.size + 1, 6, none⟩ = false := by simp [go_sem, Z6]
  have Z7' : (V4.setCell ⟨w.heap.size + 1, 4, none⟩ (.int .i64 l4)).frozen? ⟨w.heap.size + 1, 7, none⟩ = false := by simp [go_sem, Z7]
  have B' : Below w.heap.size w (V4.setCell ⟨w.heap.size + 1, 4, none⟩ (.int .i64 l4)) := B.setCell (by simp) _
  clear K4 K5 K6 K7 A0 A1 A2 A3 A4 A5 A6 A7 Z4 Z5 Z6 Z7 B
  have K5 := K5'
  have K6 := K6'
  have K7 := K7'
  have A0 := A0'
  have A1 := A1'
  have A2 := A2'
  have A3 := A3'
  have A4 := A4'
  have A5 := A5'
  have A6 := A6'
  have A7 := A7'
  have Z5 := Z5'
  have Z6 := Z6'
  have Z7 := Z7'
  have B := B'
  clear K5' K6' K7' A0' A1' A2' A3' A4' A5' A6' A7' Z5' Z6' Z7' B'
  generalize hW : (V4.setCell ⟨w.heap.size + 1, 4, none⟩ (.int .i64 l4)) = V5 at *
  clear hW
  rw [rounds_succ]
  go_wp2_with fail
  have K6' : (V5.setCell ⟨w.heap.size + 1, 5, none⟩ (.int .i64 l5)).cell? ⟨w.heap.size, 6, none⟩ = some (.int .u8 n6) := by simp [go_sem, K6]
  have K7' : (V5.setCell ⟨w.heap.size + 1, 5, none⟩ (.int .i64 l5)).cell? ⟨w.heap.size, 7, none⟩ = some (.int .u8 n7) := by simp [go_sem, K7]
  have A0' : (V5.setCell ⟨w.heap.size + 1, 5, none⟩ (.int .i64 l5)).cell? ⟨w.heap.size + 1, 0, none⟩ = some (.int .i64 l0) := by simp [go_sem, A0]
  have A1' : (V5.setCell ⟨w.heap.size + 1, 5, none⟩ (.int .i64 l5)).cell? ⟨w.heap.size + 1, 1, none⟩ = some (.int .i64 l1) := by simp [go_sem, A1]
  have A2' : (V5.setCell ⟨w.heap.size + 1, 5, none⟩ (.int .i64 l5)).cell? ⟨w.heap.size + 1, 2, none⟩ = some (.int .i64 l2) := by simp [go_sem, A2]
  have A3' : (V5.setCell ⟨w.heap.size + 1, 5, none⟩ (.int .i64 l5)).cell? ⟨w.heap.size + 1, 3, none⟩ = some (.int .i64 l3) := by simp [go_sem, A3]
  have A4' : (V5.setCell ⟨w.heap.size + 1, 5, none⟩ (.int .i64 l5)).cell? ⟨w.heap.size + 1, 4, none⟩ = some (.int .i64 l4) := by simp [go_sem, A4]
  have A5' : (V5.setCell ⟨w.heap.size + 1, 5, none⟩ (.int .i64 l5)).cell? ⟨w.heap.size + 1, 5, none⟩ = some (.int .i64 l5) := by simp [go_sem, A5]
  have A6' : (V5.setCell ⟨w.heap.size + 1, 5, none⟩ (.int .i64 l5)).cell? ⟨w.heap.size + 1, 6, none⟩ = some (.int .i64 0) := by simp [go_sem, A6]
  have A7' : (V5.setCell ⟨w.heap.size + 1, 5, none⟩ (.int .i64 l5)).cell? ⟨w.heap.size + 1, 7, none⟩ = some (.int .i64 0) := by simp [go_sem, A7]
  have Z6' : (V5.setCell ⟨w.heap.size + 1, 5, none⟩ (.int .i64 l5)).frozen? ⟨w.heap.size + 1, 6, none⟩ = false := by simp [go_sem, Z6]
  have Z7' : (V5.setCell ⟨w.heap.size + 1, 5, none⟩ (.int .i64 l5)).frozen? ⟨w.heap.size + 1, 7, none⟩ = false := by simp [go_sem, Z7]
  have B' : Below w.heap.size w (V5.setCell ⟨w.heap.size + 1, 5, none⟩ (.int .i64 l5)) := B.setCell (by simp) _
  clear K5 K6 K7 A0 A1 A2 A3 A4 A5 A6 A7 Z5 Z6 Z7 B
  have K6 := K6'
  have K7 := K7'
  have A0 := A0'
  have A1 := A1'
  have A2 := A2'
  have A3 := A3'
  have A4 := A4'
  have A5 := A5'
  have A6 := A6'
  have A7 := A7'
  have Z6 := Z6'
  have Z7 := Z7'
  have B := B'
  clear K6' K7' A0' A1' A2' A3' A4' A5' A6' A7' Z6' Z7' B'
  generalize hW : (V5.setCell ⟨w.heap.size + 1, 5, none⟩ (.int .i64 l5)) = V6 at *
  clear hW
  rw [rounds_succ]
  go_wp2_with fail
  have K7' : (V6.setCell ⟨w.heap.size + 1, 6, none⟩ (.int .i64 l6)).cell? ⟨w.heap.size, 7, none⟩ = some (.int .u8 n7) := by simp [go_sem, K7]
  have A0' : (V6.setCell ⟨w.heap.size + 1, 6, none⟩ (.int .i64 l6)).cell? ⟨w.heap.size + 1, 0, none⟩ = some (.int .i64 l0) := by simp [go_sem, A0]
  have A1' : (V6.setCell ⟨w.heap.size + 1, 6, none⟩ (.int .i64 l6)).cell? ⟨w.heap.size + 1, 1, none⟩ = some (.int .i64 l1) := by simp [go_sem, A1]
  have A2' : (V6.setCell ⟨w.heap.size + 1, 6, none⟩ (.int .i64 l6)).cell? ⟨w.heap.size + 1, 2, none⟩ = some (.int .i64 l2) := by simp [go_sem, A2]
  have A3' : (V6.setCell ⟨w.heap.size + 1, 6, none⟩ (.int .i64 l6)).cell? ⟨w.heap.size + 1, 3, none⟩ = some (.int .i64 l3) := by simp [go_sem, A3]
  have A4' : (V6.setCell ⟨w.heap.size + 1, 6, none⟩ (.int .i64 l6)).cell? ⟨w.heap.size + 1, 4, none⟩ = some (.int .i64 l4) := by simp [go_sem, A4]
  have A5' : (V6.setCell ⟨w.heap.size + 1, 6, none⟩ (.int .i64 l6)).cell? ⟨w.heap.size + 1, 5, none⟩ = some (.int .i64 l5) := by simp [go_sem, A5]
  have A6' : (V6.setCell ⟨w.heap.size + 1, 6, none⟩ (.int .i64 l6)).cell? ⟨w.heap.size + 1, 6, none⟩ = some (.int .i64 l6) := by simp [go_sem, A6]
  have A7' : (V6.setCell ⟨w.heap.size + 1, 6, none⟩ (.int .i64 l6)).cell? ⟨w.heap.size + 1, 7, none⟩ = some (.int .i64 0) := by simp [go_sem, A7]
  have Z7' : (V6.setCell ⟨w.heap.size + 1, 6, none⟩ (.int .i64 l6)).frozen? ⟨w.heap.size + 1, 7, none⟩ = false := by simp [go_sem, Z7]
  have B' : Below w.heap.size w (V6.setCell ⟨w.heap.size + 1, 6, none⟩ (.int .i64 l6)) := B.setCell (by simp) _
  clear K6 K7 A0 A1 A2 A3 A4 A5 A6 A7 Z6 Z7 B
  have K7 := K7'
  have A0 := A0'
  have A1 := A1'
  have A2 := A2'
  have A3 := A3'
  have A4 := A4'
  have A5 := A5'
  have A6 := A6'
  have A7 := A7'
  have Z7 := Z7'
  have B := B'
  clear K7' A0' A1' A2' A3' A4' A5' A6' A7' Z7' B'
  generalize hW : (V6.setCell ⟨w.heap.size + 1, 6, none⟩ (.int .i64 l6)) = V7 at *
  clear hW
  rw [rounds_succ]
  go_wp2_with fail
  have A0' : (V7.setCell ⟨w.heap.size + 1, 7, none⟩ (.int .i64 l7)).cell? ⟨w.heap.size + 1, 0, none⟩ = some (.int .i64 l0) := by simp [go_sem, A0]
  have A1' : (V7.setCell ⟨w.heap.size + 1, 7, none⟩ (.int .i64 l7)).cell? ⟨w.heap.size + 1, 1, none⟩ = some (.int .i64 l1) := by simp [go_sem, A1]
  have A2' : (V7.setCell ⟨w.heap.size + 1, 7, none⟩ (.int .i64 l7)).cell? ⟨w.heap.size + 1, 2, none⟩ = some (.int .i64 l2) := by simp [go_sem, A2]
  have A3' : (V7.setCell ⟨w.heap.size + 1, 7, none⟩ (.int .i64 l7)).cell? ⟨w.heap.size + 1, 3, none⟩ = some (.int .i64 l3) := by simp [go_sem, A3]
  have A4' : (V7.setCell ⟨w.heap.size + 1, 7, none⟩ (.int .i64 l7)).cell? ⟨w.heap.size + 1, 4, none⟩ = some (.int .i64 l4) := by simp [go_sem, A4]
  have A5' : (V7.setCell ⟨w.heap.size + 1, 7, none⟩ (.int .i64 l7)).cell? ⟨w.heap.size + 1, 5, none⟩ = some (.int .i64 l5) := by simp [go_sem, A5]
  have A6' : (V7.setCell ⟨w.heap.size + 1, 7, none⟩ (.int .i64 l7)).cell? ⟨w.heap.size + 1, 6, none⟩ = some (.int .i64 l6) := by simp [go_sem, A6]
  have A7' : (V7.setCell ⟨w.heap.size + 1, 7, none⟩ (.int .i64 l7)).cell? ⟨w.heap.size + 1, 7, none⟩ = some (.int .i64 l7) := by simp [go_sem, A7]
  have B' : Below w.heap.size w (V7.setCell ⟨w.heap.size + 1, 7, none⟩ (.int .i64 l7)) := B.setCell (by simp) _
  clear K7 A0 A1 A2 A3 A4 A5 A6 A7 Z7 B
  have A0 := A0'
  have A1 := A1'
  have A2 := A2'
  have A3 := A3'
  have A4 := A4'
  have A5 := A5'
  have A6 := A6'
  have A7 := A7'
  have B := B'
  clear A0' A1' A2' A3' A4' A5' A6' A7' B'
  generalize hW : (V7.setCell ⟨w.heap.size + 1, 7, none⟩ (.int .i64 l7)) = V8 at *
  clear hW
  clear b0 e0 b1 e1 b2 e2 b3 e3 b4 e4 b5 e5 b6 e6 b7 e7
  rw [rounds_succ]
  go_wp2_with fail
  refine (M1.out _).mono ?_; rintro e y0 ⟨rfl, hb0⟩
  replace A0 := cell_later hb0 A0
  replace A1 := cell_later hb0 A1
  replace A2 := cell_later hb0 A2
  replace A3 := cell_later hb0 A3
  replace A4 := cell_later hb0 A4
  replace A5 := cell_later hb0 A5
  replace A6 := cell_later hb0 A6
  replace A7 := cell_later hb0 A7
  replace B := B.trans (hb0.mono B.size)
  have g0 : Below y0.heap.size y0 (y0.alloc (.cells #[.int .i64 R, .int .i64 S, .int .i64 T, .int .i64 U] 35)) := grown
  replace A0 := cell_later g0 A0
  replace A1 := cell_later g0 A1
  replace A2 := cell_later g0 A2
  replace A3 := cell_later g0 A3
  replace A4 := cell_later g0 A4
  replace A5 := cell_later g0 A5
  replace A6 := cell_later g0 A6
  replace A7 := cell_later g0 A7
  replace B := B.trans (g0.mono B.size)
  have r0 : (y0.alloc (.cells #[.int .i64 R, .int .i64 S, .int .i64 T, .int .i64 U] 35)).cell? ⟨y0.heap.size, 0, none⟩ = some (.int .i64 R) := by simp [go_sem]
  have r1 : (y0.alloc (.cells #[.int .i64 R, .int .i64 S, .int .i64 T, .int .i64 U] 35)).cell? ⟨y0.heap.size, 1, none⟩ = some (.int .i64 S) := by simp [go_sem]
  have r2 : (y0.alloc (.cells #[.int .i64 R, .int .i64 S, .int .i64 T, .int .i64 U] 35)).cell? ⟨y0.heap.size, 2, none⟩ = some (.int .i64 T) := by simp [go_sem]
  have r3 : (y0.alloc (.cells #[.int .i64 R, .int .i64 S, .int .i64 T, .int .i64 U] 35)).cell? ⟨y0.heap.size, 3, none⟩ = some (.int .i64 U) := by simp [go_sem]
  go_wp2_with fail
  refine (M2.out _).mono ?_; rintro e y1 ⟨rfl, hb1⟩
  replace A0 := cell_later hb1 A0
  replace A1 := cell_later hb1 A1
  replace A2 := cell_later hb1 A2
  replace A3 := cell_later hb1 A3
  replace A4 := cell_later hb1 A4
  replace A5 := cell_later hb1 A5
  replace A6 := cell_later hb1 A6
  replace A7 := cell_later hb1 A7
  replace r0 := cell_later hb1 r0
  replace r1 := cell_later hb1 r1
  replace r2 := cell_later hb1 r2
  replace r3 := cell_later hb1 r3
  replace B := B.trans (hb1.mono B.size)
  have g1 : Below y1.heap.size y1 (y1.alloc (.cells #[.int .i64 R', .int .i64 S', .int .i64 T', .int .i64 U'] 35)) := grown
  replace A0 := cell_later g1 A0
  replace A1 := cell_later g1 A1
  replace A2 := cell_later g1 A2
  replace A3 := cell_later g1 A3
  replace A4 := cell_later g1 A4
  replace A5 := cell_later g1 A5
  replace A6 := cell_later g1 A6
  replace A7 := cell_later g1 A7
  replace r0 := cell_later g1 r0
  replace r1 := cell_later g1 r1
  replace r2 := cell_later g1 r2
  replace r3 := cell_later g1 r3
  replace B := B.trans (g1.mono B.size)
  have s0 : (y1.alloc (.cells #[.int .i64 R', .int .i64 S', .int .i64 T', .int .i64 U'] 35)).cell? ⟨y1.heap.size, 0, none⟩ = some (.int .i64 R') := by simp [go_sem]
  have s1 : (y1.alloc (.cells #[.int .i64 R', .int .i64 S', .int .i64 T', .int .i64 U'] 35)).cell? ⟨y1.heap.size, 1, none⟩ = some (.int .i64 S') := by simp [go_sem]
  have s2 : (y1.alloc (.cells #[.int .i64 R', .int .i64 S', .int .i64 T', .int .i64 U'] 35)).cell? ⟨y1.heap.size, 2, none⟩ = some (.int .i64 T') := by simp [go_sem]
  have s3 : (y1.alloc (.cells #[.int .i64 R', .int .i64 S', .int .i64 T', .int .i64 U'] 35)).cell? ⟨y1.heap.size, 3, none⟩ = some (.int .i64 U') := by simp [go_sem]
  go_wp2_with fail
  generalize hW : y1.alloc (.cells #[.int .i64 R', .int .i64 S', .int .i64 T', .int .i64 U'] 35) = W at *
  clear hW A0 A1 A2 A3 A4 A5 A6 A7 c0 c1 c2 c3 c4 c5 c6 c7
  go_loopg [9, 10, 11] 9 (fun k b m x wr => ∃ (i c : Nat) (bb : Bool), i ≤ 9 ∧ k = 9 - i ∧ x = .int .i64 ((i : Int) + 1) ∧ b = .bool bb ∧ m = .int .i64 c ∧ c ≤ 9 * i ∧ Hid (bb = allS (inB R S T U R' S' T' U') i ∧ c = allN (inR R S T U) i) ∧ Below W.heap.size W wr)
  case atStart => exact ⟨0, 0, false, by omega, by omega, rfl, rfl, rfl, by omega, Lib.hid ⟨rfl, rfl⟩, Below.refl _ _⟩
  case round =>
    obtain ⟨i, c, bb, hi, rfl, rfl, rfl, rfl, hc, H, hB⟩ := hrel
    by_cases h9 : i < 9
    · have d9 : decide ((i : Int) + 1 ≤ 9) = true := decide_eq_true (by omega)
      go_wp2_with fail
      go_loopg [9, 10, 12] 9 (fun k b m y wi => ∃ (j d : Nat) (cc : Bool), j ≤ 9 ∧ k = 9 - j ∧ y = .int .i64 ((j : Int) + 1) ∧ b = .bool cc ∧ m = .int .i64 d ∧ d ≤ 9 * i + j ∧ Hid (cc = (allS (inB R S T U R' S' T' U') i || rowS (inB R S T U R' S' T' U') (i + 1) j) ∧ d = allN (inR R S T U) i + rowN (inR R S T U) (i + 1) j) ∧ Below W.heap.size W wi)
      case atStart => exact ⟨0, c, bb, by omega, by omega, rfl, rfl, rfl, by omega, Lib.hid ⟨by rw [H.out.1]; simp [rowS], by rw [H.out.2]; rfl⟩, hB⟩
      case round =>
        obtain ⟨j, d, cc, hj, rfl, rfl, rfl, rfl, hd, H2, hB2⟩ := hrel
        clear hB
        by_cases hj9 : j < 9
        · have hs := Lib.hid (show rowS (inB R S T U R' S' T' U') (i + 1) (j + 1) = (rowS (inB R S T U R' S' T' U') (i + 1) j || (inB R S T U R' S' T' U') (i + 1) (j + 1)) from rfl)
          have hn := Lib.hid (show rowN (inR R S T U) (i + 1) (j + 1) = rowN (inR R S T U) (i + 1) j + (if (inR R S T U) (i + 1) (j + 1) then 1 else 0) from rfl)
          have gA : Below wr.heap.size wr (wr.alloc (.cells #[.int .i64 ((i : Int) + 1), .int .i64 ((j : Int) + 1)] 23)) := grown
          have a0 : (wr.alloc (.cells #[.int .i64 ((i : Int) + 1), .int .i64 ((j : Int) + 1)] 23)).cell? ⟨wr.heap.size, 0, none⟩ = some (.int .i64 ((i : Int) + 1)) := by simp [go_sem]
          have a1 : (wr.alloc (.cells #[.int .i64 ((i : Int) + 1), .int .i64 ((j : Int) + 1)] 23)).cell? ⟨wr.heap.size, 1, none⟩ = some (.int .i64 ((j : Int) + 1)) := by simp [go_sem]
          have hB3 := hB2.trans (gA.mono hB2.size)
          have zr0 := cell_later hB3 r0
          have zr1 := cell_later hB3 r1
          have zr2 := cell_later hB3 r2
          have zr3 := cell_later hB3 r3
          have zs0 := cell_later hB3 s0
          have zs1 := cell_later hB3 s1
          have zs2 := cell_later hB3 s2
          have zs3 := cell_later hB3 s3
          have HF := inR_int R S T U i j
          have HG := inR_int R' S' T' U' i j
          have HI := Lib.hid (show (inB R S T U R' S' T' U') (i + 1) (j + 1) = (inR R S T U (i + 1) (j + 1) && inR R' S' T' U' (i + 1) (j + 1)) from rfl)
          cases hf : inR R S T U (i + 1) (j + 1) <;> cases hg : inR R' S' T' U' (i + 1) (j + 1) <;> cases cc
          · have HH : Hid (false = (allS (inB R S T U R' S' T' U') i || rowS (inB R S T U R' S' T' U') (i + 1) (j + 1)) ∧ d = allN (inR R S T U) i + rowN (inR R S T U) (i + 1) (j + 1)) := Lib.hid (by
              obtain ⟨h1, h2⟩ := H2.out
              rw [hs.out, hn.out, HI.out, hf, hg, ← Bool.or_assoc, ← h1, ← Nat.add_assoc, ← h2]; exact ⟨rfl, rfl⟩)
            have HF1 := Lib.hid (HF.trans hf); have HG1 := Lib.hid (HG.trans hg)
            clear HF HG hf hg
            go_wp2_with fail
            refine (hasAs HF1.out _).mono ?_; rintro e u1 ⟨rfl, hu1⟩
            replace zr0 := cell_later hu1 zr0
            replace zr1 := cell_later hu1 zr1
            replace zr2 := cell_later hu1 zr2
            replace zr3 := cell_later hu1 zr3
            replace zs0 := cell_later hu1 zs0
            replace zs1 := cell_later hu1 zs1
            replace zs2 := cell_later hu1 zs2
            replace zs3 := cell_later hu1 zs3
            replace a0 := cell_later hu1 a0
            replace a1 := cell_later hu1 a1
            replace hB3 := hB3.trans (hu1.mono hB3.size)
            go_wp2_with fail
            refine (hasAs HF1.out _).mono ?_; rintro e u2 ⟨rfl, hu2⟩
            replace zr0 := cell_later hu2 zr0
            replace zr1 := cell_later hu2 zr1
            replace zr2 := cell_later hu2 zr2
            replace zr3 := cell_later hu2 zr3
            replace zs0 := cell_later hu2 zs0
            replace zs1 := cell_later hu2 zs1
            replace zs2 := cell_later hu2 zs2
            replace zs3 := cell_later hu2 zs3
            replace a0 := cell_later hu2 a0
            replace a1 := cell_later hu2 a1
            replace hB3 := hB3.trans (hu2.mono hB3.size)
            go_wp2_with fail
            go_roundg (9 - (j + 1))
            case measure => omega
            case rel => exact ⟨j + 1, d, false, by omega, rfl, congrArg _ (by omega), rfl, rfl, by omega, HH, hB3⟩
          · have HH : Hid (true = (allS (inB R S T U R' S' T' U') i || rowS (inB R S T U R' S' T' U') (i + 1) (j + 1)) ∧ d = allN (inR R S T U) i + rowN (inR R S T U) (i + 1) (j + 1)) := Lib.hid (by
              obtain ⟨h1, h2⟩ := H2.out
              rw [hs.out, hn.out, HI.out, hf, hg, ← Bool.or_assoc, ← h1, ← Nat.add_assoc, ← h2]; exact ⟨rfl, rfl⟩)
            have HF1 := Lib.hid (HF.trans hf); have HG1 := Lib.hid (HG.trans hg)
            clear HF HG hf hg
            go_wp2_with fail
            refine (hasAs HF1.out _).mono ?_; rintro e u1 ⟨rfl, hu1⟩
            replace zr0 := cell_later hu1 zr0
            replace zr1 := cell_later hu1 zr1
            replace zr2 := cell_later hu1 zr2
            replace zr3 := cell_later hu1 zr3
            replace zs0 := cell_later hu1 zs0
            replace zs1 := cell_later hu1 zs1
            replace zs2 := cell_later hu1 zs2
            replace zs3 := cell_later hu1 zs3
            replace a0 := cell_later hu1 a0
            replace a1 := cell_later hu1 a1
            replace hB3 := hB3.trans (hu1.mono hB3.size)
            go_wp2_with fail
            go_roundg (9 - (j + 1))
            case measure => omega
            case rel => exact ⟨j + 1, d, true, by omega, rfl, congrArg _ (by omega), rfl, rfl, by omega, HH, hB3⟩
          · have HH : Hid (false = (allS (inB R S T U R' S' T' U') i || rowS (inB R S T U R' S' T' U') (i + 1) (j + 1)) ∧ d = allN (inR R S T U) i + rowN (inR R S T U) (i + 1) (j + 1)) := Lib.hid (by
              obtain ⟨h1, h2⟩ := H2.out
              rw [hs.out, hn.out, HI.out, hf, hg, ← Bool.or_assoc, ← h1, ← Nat.add_assoc, ← h2]; exact ⟨rfl, rfl⟩)
            have HF1 := Lib.hid (HF.trans hf); have HG1 := Lib.hid (HG.trans hg)
            clear HF HG hf hg
            go_wp2_with fail
            refine (hasAs HF1.out _).mono ?_; rintro e u1 ⟨rfl, hu1⟩
            replace zr0 := cell_later hu1 zr0
            replace zr1 := cell_later hu1 zr1
            replace zr2 := cell_later hu1 zr2
            replace zr3 := cell_later hu1 zr3
            replace zs0 := cell_later hu1 zs0
            replace zs1 := cell_later hu1 zs1
            replace zs2 := cell_later hu1 zs2
            replace zs3 := cell_later hu1 zs3
            replace a0 := cell_later hu1 a0
            replace a1 := cell_later hu1 a1
            replace hB3 := hB3.trans (hu1.mono hB3.size)
            go_wp2_with fail
            refine (hasAs HF1.out _).mono ?_; rintro e u2 ⟨rfl, hu2⟩
            replace zr0 := cell_later hu2 zr0
            replace zr1 := cell_later hu2 zr1
            replace zr2 := cell_later hu2 zr2
            replace zr3 := cell_later hu2 zr3
            replace zs0 := cell_later hu2 zs0
            replace zs1 := cell_later hu2 zs1
            replace zs2 := cell_later hu2 zs2
            replace zs3 := cell_later hu2 zs3
            replace a0 := cell_later hu2 a0
            replace a1 := cell_later hu2 a1
            replace hB3 := hB3.trans (hu2.mono hB3.size)
            go_wp2_with fail
            go_roundg (9 - (j + 1))
            case measure => omega
            case rel => exact ⟨j + 1, d, false, by omega, rfl, congrArg _ (by omega), rfl, rfl, by omega, HH, hB3⟩
          · have HH : Hid (true = (allS (inB R S T U R' S' T' U') i || rowS (inB R S T U R' S' T' U') (i + 1) (j + 1)) ∧ d = allN (inR R S T U) i + rowN (inR R S T U) (i + 1) (j + 1)) := Lib.hid (by
              obtain ⟨h1, h2⟩ := H2.out
              rw [hs.out, hn.out, HI.out, hf, hg, ← Bool.or_assoc, ← h1, ← Nat.add_assoc, ← h2]; exact ⟨rfl, rfl⟩)
            have HF1 := Lib.hid (HF.trans hf); have HG1 := Lib.hid (HG.trans hg)
            clear HF HG hf hg
            go_wp2_with fail
            refine (hasAs HF1.out _).mono ?_; rintro e u1 ⟨rfl, hu1⟩
            replace zr0 := cell_later hu1 zr0
            replace zr1 := cell_later hu1 zr1
            replace zr2 := cell_later hu1 zr2
            replace zr3 := cell_later hu1 zr3
            replace zs0 := cell_later hu1 zs0
            replace zs1 := cell_later hu1 zs1
            replace zs2 := cell_later hu1 zs2
            replace zs3 := cell_later hu1 zs3
            replace a0 := cell_later hu1 a0
            replace a1 := cell_later hu1 a1
            replace hB3 := hB3.trans (hu1.mono hB3.size)
            go_wp2_with fail
            go_roundg (9 - (j + 1))
            case measure => omega
            case rel => exact ⟨j + 1, d, true, by omega, rfl, congrArg _ (by omega), rfl, rfl, by omega, HH, hB3⟩
          · have HH : Hid (false = (allS (inB R S T U R' S' T' U') i || rowS (inB R S T U R' S' T' U') (i + 1) (j + 1)) ∧ d + 1 = allN (inR R S T U) i + rowN (inR R S T U) (i + 1) (j + 1)) := Lib.hid (by
              obtain ⟨h1, h2⟩ := H2.out
              rw [hs.out, hn.out, HI.out, hf, hg, ← Bool.or_assoc, ← h1, ← Nat.add_assoc, ← h2]; exact ⟨rfl, rfl⟩)
            have HF1 := Lib.hid (HF.trans hf); have HG1 := Lib.hid (HG.trans hg)
            clear HF HG hf hg
            go_wp2_with fail
            refine (hasAs HF1.out _).mono ?_; rintro e u1 ⟨rfl, hu1⟩
            replace zr0 := cell_later hu1 zr0
            replace zr1 := cell_later hu1 zr1
            replace zr2 := cell_later hu1 zr2
            replace zr3 := cell_later hu1 zr3
            replace zs0 := cell_later hu1 zs0
            replace zs1 := cell_later hu1 zs1
            replace zs2 := cell_later hu1 zs2
            replace zs3 := cell_later hu1 zs3
            replace a0 := cell_later hu1 a0
            replace a1 := cell_later hu1 a1
            replace hB3 := hB3.trans (hu1.mono hB3.size)
            go_wp2_with fail
            refine (hasAs HG1.out _).mono ?_; rintro e u2 ⟨rfl, hu2⟩
            replace zr0 := cell_later hu2 zr0
            replace zr1 := cell_later hu2 zr1
            replace zr2 := cell_later hu2 zr2
            replace zr3 := cell_later hu2 zr3
            replace zs0 := cell_later hu2 zs0
            replace zs1 := cell_later hu2 zs1
            replace zs2 := cell_later hu2 zs2
            replace zs3 := cell_later hu2 zs3
            replace a0 := cell_later hu2 a0
            replace a1 := cell_later hu2 a1
            replace hB3 := hB3.trans (hu2.mono hB3.size)
            go_wp2_with fail
            refine (hasAs HF1.out _).mono ?_; rintro e u3 ⟨rfl, hu3⟩
            replace zr0 := cell_later hu3 zr0
            replace zr1 := cell_later hu3 zr1
            replace zr2 := cell_later hu3 zr2
            replace zr3 := cell_later hu3 zr3
            replace zs0 := cell_later hu3 zs0
            replace zs1 := cell_later hu3 zs1
            replace zs2 := cell_later hu3 zs2
            replace zs3 := cell_later hu3 zs3
            replace a0 := cell_later hu3 a0
            replace a1 := cell_later hu3 a1
            replace hB3 := hB3.trans (hu3.mono hB3.size)
            go_wp2_with fail
            go_roundg (9 - (j + 1))
            case measure => omega
            case rel => exact ⟨j + 1, d + 1, false, by omega, rfl, congrArg _ (by omega), rfl, congrArg _ (by omega), by omega, HH, hB3⟩
          · have HH : Hid (true = (allS (inB R S T U R' S' T' U') i || rowS (inB R S T U R' S' T' U') (i + 1) (j + 1)) ∧ d + 1 = allN (inR R S T U) i + rowN (inR R S T U) (i + 1) (j + 1)) := Lib.hid (by
              obtain ⟨h1, h2⟩ := H2.out
              rw [hs.out, hn.out, HI.out, hf, hg, ← Bool.or_assoc, ← h1, ← Nat.add_assoc, ← h2]; exact ⟨rfl, rfl⟩)
            have HF1 := Lib.hid (HF.trans hf); have HG1 := Lib.hid (HG.trans hg)
            clear HF HG hf hg
            go_wp2_with fail
            refine (hasAs HF1.out _).mono ?_; rintro e u1 ⟨rfl, hu1⟩
            replace zr0 := cell_later hu1 zr0
            replace zr1 := cell_later hu1 zr1
            replace zr2 := cell_later hu1 zr2
            replace zr3 := cell_later hu1 zr3
            replace zs0 := cell_later hu1 zs0
            replace zs1 := cell_later hu1 zs1
            replace zs2 := cell_later hu1 zs2
            replace zs3 := cell_later hu1 zs3
            replace a0 := cell_later hu1 a0
            replace a1 := cell_later hu1 a1
            replace hB3 := hB3.trans (hu1.mono hB3.size)
            go_wp2_with fail
            go_roundg (9 - (j + 1))
            case measure => omega
            case rel => exact ⟨j + 1, d + 1, true, by omega, rfl, congrArg _ (by omega), rfl, congrArg _ (by omega), by omega, HH, hB3⟩
          · have HH : Hid (true = (allS (inB R S T U R' S' T' U') i || rowS (inB R S T U R' S' T' U') (i + 1) (j + 1)) ∧ d + 1 = allN (inR R S T U) i + rowN (inR R S T U) (i + 1) (j + 1)) := Lib.hid (by
              obtain ⟨h1, h2⟩ := H2.out
              rw [hs.out, hn.out, HI.out, hf, hg, ← Bool.or_assoc, ← h1, ← Nat.add_assoc, ← h2]; exact ⟨rfl, rfl⟩)
            have HF1 := Lib.hid (HF.trans hf); have HG1 := Lib.hid (HG.trans hg)
            clear HF HG hf hg
            go_wp2_with fail
            refine (hasAs HF1.out _).mono ?_; rintro e u1 ⟨rfl, hu1⟩
            replace zr0 := cell_later hu1 zr0
            replace zr1 := cell_later hu1 zr1
            replace zr2 := cell_later hu1 zr2
            replace zr3 := cell_later hu1 zr3
            replace zs0 := cell_later hu1 zs0
            replace zs1 := cell_later hu1 zs1
            replace zs2 := cell_later hu1 zs2
            replace zs3 := cell_later hu1 zs3
            replace a0 := cell_later hu1 a0
            replace a1 := cell_later hu1 a1
            replace hB3 := hB3.trans (hu1.mono hB3.size)
            go_wp2_with fail
            refine (hasAs HG1.out _).mono ?_; rintro e u2 ⟨rfl, hu2⟩
            replace zr0 := cell_later hu2 zr0
            replace zr1 := cell_later hu2 zr1
            replace zr2 := cell_later hu2 zr2
            replace zr3 := cell_later hu2 zr3
            replace zs0 := cell_later hu2 zs0
            replace zs1 := cell_later hu2 zs1
            replace zs2 := cell_later hu2 zs2
            replace zs3 := cell_later hu2 zs3
            replace a0 := cell_later hu2 a0
            replace a1 := cell_later hu2 a1
            replace hB3 := hB3.trans (hu2.mono hB3.size)
            go_wp2_with fail
            refine (hasAs HF1.out _).mono ?_; rintro e u3 ⟨rfl, hu3⟩
            replace zr0 := cell_later hu3 zr0
            replace zr1 := cell_later hu3 zr1
            replace zr2 := cell_later hu3 zr2
            replace zr3 := cell_later hu3 zr3
            replace zs0 := cell_later hu3 zs0
            replace zs1 := cell_later hu3 zs1
            replace zs2 := cell_later hu3 zs2
            replace zs3 := cell_later hu3 zs3
            replace a0 := cell_later hu3 a0
            replace a1 := cell_later hu3 a1
            replace hB3 := hB3.trans (hu3.mono hB3.size)
            go_wp2_with fail
            go_roundg (9 - (j + 1))
            case measure => omega
            case rel => exact ⟨j + 1, d + 1, true, by omega, rfl, congrArg _ (by omega), rfl, congrArg _ (by omega), by omega, HH, hB3⟩
          · have HH : Hid (true = (allS (inB R S T U R' S' T' U') i || rowS (inB R S T U R' S' T' U') (i + 1) (j + 1)) ∧ d + 1 = allN (inR R S T U) i + rowN (inR R S T U) (i + 1) (j + 1)) := Lib.hid (by
              obtain ⟨h1, h2⟩ := H2.out
              rw [hs.out, hn.out, HI.out, hf, hg, ← Bool.or_assoc, ← h1, ← Nat.add_assoc, ← h2]; exact ⟨rfl, rfl⟩)
            have HF1 := Lib.hid (HF.trans hf); have HG1 := Lib.hid (HG.trans hg)
            clear HF HG hf hg
            go_wp2_with fail
            refine (hasAs HF1.out _).mono ?_; rintro e u1 ⟨rfl, hu1⟩
            replace zr0 := cell_later hu1 zr0
            replace zr1 := cell_later hu1 zr1
            replace zr2 := cell_later hu1 zr2
            replace zr3 := cell_later hu1 zr3
            replace zs0 := cell_later hu1 zs0
            replace zs1 := cell_later hu1 zs1
            replace zs2 := cell_later hu1 zs2
            replace zs3 := cell_later hu1 zs3
            replace a0 := cell_later hu1 a0
            replace a1 := cell_later hu1 a1
            replace hB3 := hB3.trans (hu1.mono hB3.size)
            go_wp2_with fail
            go_roundg (9 - (j + 1))
            case measure => omega
            case rel => exact ⟨j + 1, d + 1, true, by omega, rfl, congrArg _ (by omega), rfl, congrArg _ (by omega), by omega, HH, hB3⟩
        · have e9 : j = 9 := by omega
          have H3 := Lib.hid (show cc = allS (inB R S T U R' S' T' U') (i + 1) ∧ d = allN (inR R S T U) (i + 1) by have := H2.out; rw [e9] at this; exact this)
          go_wp2_with fail
          go_roundg (9 - (i + 1))
          case measure => omega
          case rel => exact ⟨i + 1, d, cc, by omega, rfl, congrArg _ (by omega), rfl, rfl, by omega, H3, hB2⟩
    · have e9 : i = 9 := by omega
      have MM := Lib.hid ((meet_all P1.out P2.out).trans (show allS (inB R S T U R' S' T' U') 9 = bb by rw [H.out.1, e9]))
      have MC := Lib.hid ((meet_comm R' S' T' U' R S T U).trans MM.out)
      have CC := Lib.hid ((count_all P1.out).trans (show ((allN (inR R S T U) 9 : Nat) : Int) = c by rw [H.out.2, e9]))
      replace r0 := cell_later hB r0
      replace r1 := cell_later hB r1
      replace r2 := cell_later hB r2
      replace r3 := cell_later hB r3
      replace s0 := cell_later hB s0
      replace s1 := cell_later hB s1
      replace s2 := cell_later hB s2
      replace s3 := cell_later hB s3
      cases bb
      · clear H
        go_wp2_with fail
        refine (meetV MM.out _).mono ?_; rintro e u0 ⟨rfl, hu0⟩
        replace r0 := cell_later hu0 r0
        replace r1 := cell_later hu0 r1
        replace r2 := cell_later hu0 r2
        replace r3 := cell_later hu0 r3
        replace s0 := cell_later hu0 s0
        replace s1 := cell_later hu0 s1
        replace s2 := cell_later hu0 s2
        replace s3 := cell_later hu0 s3
        replace hB := hB.trans (hu0.mono hB.size)
        go_wp2_with fail
        refine (meetV MC.out _).mono ?_; rintro e u1 ⟨rfl, hu1⟩
        replace r0 := cell_later hu1 r0
        replace r1 := cell_later hu1 r1
        replace r2 := cell_later hu1 r2
        replace r3 := cell_later hu1 r3
        replace s0 := cell_later hu1 s0
        replace s1 := cell_later hu1 s1
        replace s2 := cell_later hu1 s2
        replace s3 := cell_later hu1 s3
        replace hB := hB.trans (hu1.mono hB.size)
        go_wp2_with fail
        refine (countAs CC.out _).mono ?_; rintro e u2 ⟨rfl, hu2⟩
        replace r0 := cell_later hu2 r0
        replace r1 := cell_later hu2 r1
        replace r2 := cell_later hu2 r2
        replace r3 := cell_later hu2 r3
        replace s0 := cell_later hu2 s0
        replace s1 := cell_later hu2 s1
        replace s2 := cell_later hu2 s2
        replace s3 := cell_later hu2 s3
        replace hB := hB.trans (hu2.mono hB.size)
        go_wp2_with fail
        refine (awakes _ (hL.below (B.trans (hB.mono B.size)))).mono ?_; rintro e u4 ⟨rfl, hu4⟩
        replace hB := hB.trans (hu4.mono hB.size)
        go_wp2_with fail
        go_ret
        exact ⟨ret1 rfl, B.trans (hB.mono B.size)⟩
      · clear H
        go_wp2_with fail
        refine (meetV MM.out _).mono ?_; rintro e u0 ⟨rfl, hu0⟩
        replace r0 := cell_later hu0 r0
        replace r1 := cell_later hu0 r1
        replace r2 := cell_later hu0 r2
        replace r3 := cell_later hu0 r3
        replace s0 := cell_later hu0 s0
        replace s1 := cell_later hu0 s1
        replace s2 := cell_later hu0 s2
        replace s3 := cell_later hu0 s3
        replace hB := hB.trans (hu0.mono hB.size)
        go_wp2_with fail
        refine (meetV MC.out _).mono ?_; rintro e u1 ⟨rfl, hu1⟩
        replace r0 := cell_later hu1 r0
        replace r1 := cell_later hu1 r1
        replace r2 := cell_later hu1 r2
        replace r3 := cell_later hu1 r3
        replace s0 := cell_later hu1 s0
        replace s1 := cell_later hu1 s1
        replace s2 := cell_later hu1 s2
        replace s3 := cell_later hu1 s3
        replace hB := hB.trans (hu1.mono hB.size)
        go_wp2_with fail
        refine (countAs CC.out _).mono ?_; rintro e u2 ⟨rfl, hu2⟩
        replace r0 := cell_later hu2 r0
        replace r1 := cell_later hu2 r1
        replace r2 := cell_later hu2 r2
        replace r3 := cell_later hu2 r3
        replace s0 := cell_later hu2 s0
        replace s1 := cell_later hu2 s1
        replace s2 := cell_later hu2 s2
        replace s3 := cell_later hu2 s3
        replace hB := hB.trans (hu2.mono hB.size)
        go_wp2_with fail
        refine (awakes _ (hL.below (B.trans (hB.mono B.size)))).mono ?_; rintro e u4 ⟨rfl, hu4⟩
        replace hB := hB.trans (hu4.mono hB.size)
        go_wp2_with fail
        go_ret
        exact ⟨ret1 rfl, B.trans (hB.mono B.size)⟩

theorem addrMeets (n0 n1 n2 n3 n4 n5 n6 n7 : Int) (w : World) (hL : LibIs w) (b0 : 0 ≤ n0 ∧ n0 ≤ 255) (b1 : 0 ≤ n1 ∧ n1 ≤ 255) (b2 : 0 ≤ n2 ∧ n2 ≤ 255) (b3 : 0 ≤ n3 ∧ n3 ≤ 255) (b4 : 0 ≤ n4 ∧ n4 ≤ 255) (b5 : 0 ≤ n5 ∧ n5 ≤ 255) (b6 : 0 ≤ n6 ∧ n6 ≤ 255) (b7 : 0 ≤ n7 ∧ n7 ≤ 255) :
    Calls Tryd.prog 6 #[.agg #[.int .u8 n0, .int .u8 n1, .int .u8 n2, .int .u8 n3, .int .u8 n4, .int .u8 n5, .int .u8 n6, .int .u8 n7]] w fun e w' => e = .returned (.bool true) ∧ Below w.heap.size w w' := by
  obtain ⟨l0, e0, c0⟩ : ∃ l : Nat, 1 + n0 % 9 = l ∧ 1 ≤ l ∧ l ≤ 9 := ⟨(1 + n0 % 9).toNat, by omega, by omega, by omega⟩
  obtain ⟨l1, e1, c1⟩ : ∃ l : Nat, 1 + n1 % 9 = l ∧ 1 ≤ l ∧ l ≤ 9 := ⟨(1 + n1 % 9).toNat, by omega, by omega, by omega⟩
  obtain ⟨l2, e2, c2⟩ : ∃ l : Nat, 1 + n2 % 9 = l ∧ 1 ≤ l ∧ l ≤ 9 := ⟨(1 + n2 % 9).toNat, by omega, by omega, by omega⟩
  obtain ⟨l3, e3, c3⟩ : ∃ l : Nat, 1 + n3 % 9 = l ∧ 1 ≤ l ∧ l ≤ 9 := ⟨(1 + n3 % 9).toNat, by omega, by omega, by omega⟩
  obtain ⟨l4, e4, c4⟩ : ∃ l : Nat, 1 + n4 % 9 = l ∧ 1 ≤ l ∧ l ≤ 9 := ⟨(1 + n4 % 9).toNat, by omega, by omega, by omega⟩
  obtain ⟨l5, e5, c5⟩ : ∃ l : Nat, 1 + n5 % 9 = l ∧ 1 ≤ l ∧ l ≤ 9 := ⟨(1 + n5 % 9).toNat, by omega, by omega, by omega⟩
  obtain ⟨l6, e6, c6⟩ : ∃ l : Nat, 1 + n6 % 9 = l ∧ 1 ≤ l ∧ l ≤ 9 := ⟨(1 + n6 % 9).toNat, by omega, by omega, by omega⟩
  obtain ⟨l7, e7, c7⟩ : ∃ l : Nat, 1 + n7 % 9 = l ∧ 1 ≤ l ∧ l ≤ 9 := ⟨(1 + n7 % 9).toNat, by omega, by omega, by omega⟩
  obtain ⟨R, hR, R1, R2, R3⟩ := lo_nat l0 l2
  obtain ⟨S, hS, S1, S2, S3⟩ := lo_nat l1 l3
  obtain ⟨T, hT, T1, T2, T3⟩ := hi_nat l0 l2
  obtain ⟨U, hU, U1, U2, U3⟩ := hi_nat l1 l3
  obtain ⟨R', hRq, Rq1, Rq2, Rq3⟩ := lo_nat l4 l6
  obtain ⟨S', hSq, Sq1, Sq2, Sq3⟩ := lo_nat l5 l7
  obtain ⟨T', hTq, Tq1, Tq2, Tq3⟩ := hi_nat l4 l6
  obtain ⟨U', hUq, Uq1, Uq2, Uq3⟩ := hi_nat l5 l7
  exact addrMeets_of n0 n1 n2 n3 n4 n5 n6 n7 l0 l1 l2 l3 l4 l5 l6 l7 R S T U R' S' T' U' w hL b0 b1 b2 b3 b4 b5 b6 b7 e0 e1 e2 e3 e4 e5 e6 e7 c0 c1 c2 c3 c4 c5 c6 c7 hR hS hT hU hRq hSq hTq hUq (by unfold Nine; omega) (by unfold Nine; omega)
end Go.Proofs.YtogahgbfdmfmcaaDoor.AddrC
