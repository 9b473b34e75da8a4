/-
  The walk of the statement AddrOrder: for all arguments it answers true.
-/
import Derived.Test.YtogahgbfdmfmcaaDoorAddrL3
import Derived.StillTailTactics
import Derived.LoopN
namespace Go.Proofs.YtogahgbfdmfmcaaDoor.AddrC
set_option linter.unusedVariables false
open Go.RowKit Go.Proofs.YtogahgbfdmfmcaaDoor.NumC

theorem keepModAs {k m n : Int} (w : World) (hk : I64 k) (hm : 0 < m) (hm1 : m ≤ 1000) (e : modK k m = n) :
    Calls Tryd.prog 27 #[.int .i64 k, .int .i64 m] w fun e w' => e = .returned (.int .i64 n) ∧ w' = w := by
  subst e
  exact (keepMod k m w hk hm hm1).mono fun e w' h => ⟨h.1, h.2.symm⟩

theorem lo_comm (x y : Int) : lo x y = lo y x := by unfold lo; split <;> split <;> omega
theorem hi_comm (x y : Int) : hi x y = hi y x := by unfold hi; split <;> split <;> omega
theorem madeAs {a b c d A B C D : Int} (h1 : Cell a b) (h2 : Cell c d) (eA : lo a c = A) (eB : lo b d = B) (eC : hi a c = C) (eD : hi b d = D) (w : World) :
    Calls Tryd.prog 17 #[.agg #[.int .i64 a, .int .i64 b], .agg #[.int .i64 c, .int .i64 d]] w fun e w' => e = .returned (.tuple #[.agg #[.int .i64 A, .int .i64 B, .int .i64 C, .int .i64 D], .bool true]) ∧ Below w.heap.size w w' := by
  have hm : madeB a b c d = true := decide_eq_true ⟨h1, h2⟩
  have := made a b c d w
  rw [(m_t hm).1, (m_t hm).2.1, (m_t hm).2.2.1, (m_t hm).2.2.2, hm, eA, eB, eC, eD] at this
  exact this
theorem fineAs {a b c d : Int} {v : Bool} (h : fineB a b c d = v) (w : World) :
    Calls Tryd.prog 19 #[.agg #[.int .i64 a, .int .i64 b, .int .i64 c, .int .i64 d]] w fun e w' => e = .returned (.bool v) ∧ Below w.heap.size w w' := by rw [← h]; exact fine a b c d w
theorem hasAs {a b c d r k : Int} {v : Bool} (h : hasB a b c d r k = v) (w : World) :
    Calls Tryd.prog 21 #[.agg #[.int .i64 a, .int .i64 b, .int .i64 c, .int .i64 d], .agg #[.int .i64 r, .int .i64 k]] w fun e w' => e = .returned (.bool v) ∧ Below w.heap.size w w' := by rw [← h]; exact has a b c d r k w
theorem meetAs {a b c d r k : Int} {v : Bool} (h : hasB a b c d r k = v) (w : World) :
    Calls Tryd.prog 23 #[.agg #[.int .i64 a, .int .i64 b, .int .i64 c, .int .i64 d], .agg #[.int .i64 r, .int .i64 k, .int .i64 r, .int .i64 k]] w fun e w' => e = .returned (.bool v) ∧ Below w.heap.size w w' := by rw [← h, ← meet_has]; exact meet a b c d r k r k w
theorem countAs {a b c d : Int} {n : Int} (h : countN a b c d = n) (w : World) :
    Calls Tryd.prog 25 #[.agg #[.int .i64 a, .int .i64 b, .int .i64 c, .int .i64 d]] w fun e w' => e = .returned (.int .i64 n) ∧ Below w.heap.size w w' := by rw [← h]; exact count a b c d w
theorem count_one {r k : Int} (h : Cell r k) : countN r k r k = 1 := by
  unfold countN
  rw [if_pos ⟨h, h, Int.le_refl _, Int.le_refl _⟩, show r - r + 1 = 1 by omega, show k - k + 1 = 1 by omega]; rfl
theorem lo_self (x : Int) : lo x x = x := by unfold lo; split <;> rfl
theorem hi_self (x : Int) : hi x x = x := by unfold hi; split <;> rfl
theorem rect_has {a b c d : Int} (h1 : Cell a b) (h2 : Cell c d) :
    fineB (lo a c) (lo b d) (hi a c) (hi b d) = true ∧ hasB (lo a c) (lo b d) (hi a c) (hi b d) a b = true ∧ hasB (lo a c) (lo b d) (hi a c) (hi b d) c d = true := by
  unfold fineB hasB HasP FineP Cell lo hi
  unfold Cell at h1 h2
  refine ⟨decide_eq_true ?_, decide_eq_true ?_, decide_eq_true ?_⟩ <;> (split <;> split <;> split <;> split <;> omega)

set_option maxRecDepth 100000 in
set_option maxHeartbeats 4000000 in
theorem addrOrder_1 (k0 k1 k2 p0 p1 p2 q0 q1 q2 : Int) (w : World) (hk0 : I64 k0) (hk1 : I64 k1) (hk2 : I64 k2) (hL : LibIs w)
    (a0 : 0 ≤ p0 ∧ p0 < 1000) (b0 : 0 ≤ q0 ∧ q0 < 50) (a1 : 0 ≤ p1 ∧ p1 < 1000) (b1 : 0 ≤ q1 ∧ q1 < 50) (a2 : 0 ≤ p2 ∧ p2 < 1000) (b2 : 0 ≤ q2 ∧ q2 < 50)
    (e0 : modK k0 1000 = p0) (f0 : modK (k0.tdiv 1000) 50 = q0) (e1 : modK k1 1000 = p1) (f1 : modK (k1.tdiv 1000) 50 = q1) (e2 : modK k2 1000 = p2) (f2 : modK (k2.tdiv 1000) 50 = q2)
    (n1 : (p0 < p1 ∨ p0 = p1 ∧ q0 < q1)) (n2 : (p1 < p2 ∨ p1 = p2 ∧ q1 < q2)) :
    Calls Tryd.prog 7 #[.agg #[.int .i64 k0, .int .i64 k1, .int .i64 k2]] w fun e w' => e = .returned (.bool true) ∧ Below w.heap.size w w' := by
  have E0 := Lib.hid e0; have F0 := Lib.hid f0; have i0 := Lib.hid hk0; have j0 := Lib.hid (tdiv_i64 hk0)
  have c0 := Lib.hid (cell_mod a0 b0)
  have E1 := Lib.hid e1; have F1 := Lib.hid f1; have i1 := Lib.hid hk1; have j1 := Lib.hid (tdiv_i64 hk1)
  have c1 := Lib.hid (cell_mod a1 b1)
  have E2 := Lib.hid e2; have F2 := Lib.hid f2; have i2 := Lib.hid hk2; have j2 := Lib.hid (tdiv_i64 hk2)
  have c2 := Lib.hid (cell_mod a2 b2)
  have Q01 : Hid (beforeB (1 + p0) (1 + q0) (1 + p1) (1 + q1) = true) := Lib.hid (decide_eq_true (by omega))
  have Q12 : Hid (beforeB (1 + p1) (1 + q1) (1 + p2) (1 + q2) = true) := Lib.hid (decide_eq_true (by omega))
  have Q02 : Hid (beforeB (1 + p0) (1 + q0) (1 + p2) (1 + q2) = true) := Lib.hid (decide_eq_true (by omega))
  have Q00 : Hid (beforeB (1 + p0) (1 + q0) (1 + p0) (1 + q0) = false) := Lib.hid (decide_eq_false (by omega))
  have Q10 : Hid (beforeB (1 + p1) (1 + q1) (1 + p0) (1 + q0) = false) := Lib.hid (decide_eq_false (by omega))
  clear n1 n2
  have RH := Lib.hid (rect_has c0.out c1.out)
  have CO := Lib.hid (count_one c2.out)
  obtain ⟨R, hR⟩ : ∃ R, lo (1 + p0) (1 + p1) = R := ⟨_, rfl⟩
  obtain ⟨S, hS⟩ : ∃ S, lo (1 + q0) (1 + q1) = S := ⟨_, rfl⟩
  obtain ⟨T, hT⟩ : ∃ T, hi (1 + p0) (1 + p1) = T := ⟨_, rfl⟩
  obtain ⟨U, hU⟩ : ∃ U, hi (1 + q0) (1 + q1) = U := ⟨_, rfl⟩
  rw [hR, hS, hT, hU] at RH
  obtain ⟨v, hv⟩ : ∃ v, hasB R S T U (1 + p2) (1 + q2) = v := ⟨_, rfl⟩
  have M1 := fun w => madeAs c0.out c1.out hR hS hT hU w
  have M2 := fun w => madeAs c1.out c0.out ((lo_comm _ _).trans hR) ((lo_comm _ _).trans hS) ((hi_comm _ _).trans hT) ((hi_comm _ _).trans hU) w
  have M3 := fun w => madeAs c2.out c2.out (lo_self _) (lo_self _) (hi_self _) (hi_self _) w
  have hm1 := Lib.hid M1; have hm2 := Lib.hid M2; have hm3 := Lib.hid M3; have HV := Lib.hid hv
  clear e0 e1 e2 f0 f1 f2 M1 M2 M3 hR hS hT hU hv
  unfold I64 at hk0 hk1 hk2
  have u0 : IntKind.i64.wrap (k0.tdiv 1000) = k0.tdiv 1000 := by have := j0.out; unfold I64 at this; rw [IntKind.wrap_i64]; omega
  have v0 : IntKind.i64.wrap (1 + p0) = 1 + p0 := by rw [IntKind.wrap_i64]; omega
  have x0 : IntKind.i64.wrap (1 + q0) = 1 + q0 := by rw [IntKind.wrap_i64]; omega
  have u1 : IntKind.i64.wrap (k1.tdiv 1000) = k1.tdiv 1000 := by have := j1.out; unfold I64 at this; rw [IntKind.wrap_i64]; omega
  have v1 : IntKind.i64.wrap (1 + p1) = 1 + p1 := by rw [IntKind.wrap_i64]; omega
  have x1 : IntKind.i64.wrap (1 + q1) = 1 + q1 := by rw [IntKind.wrap_i64]; omega
  have u2 : IntKind.i64.wrap (k2.tdiv 1000) = k2.tdiv 1000 := by have := j2.out; unfold I64 at this; rw [IntKind.wrap_i64]; omega
  have v2 : IntKind.i64.wrap (1 + p2) = 1 + p2 := by rw [IntKind.wrap_i64]; omega
  have x2 : IntKind.i64.wrap (1 + q2) = 1 + q2 := by rw [IntKind.wrap_i64]; omega
  have K0 : ((w.alloc (.cells #[.int .i64 k0, .int .i64 k1, .int .i64 k2] 51)).alloc (.cells #[.int .i64 0, .int .i64 0, .int .i64 0, .int .i64 0, .int .i64 0, .int .i64 0] 52)).drew.cell? ⟨w.heap.size, 0, none⟩ = some (.int .i64 k0) := by simp [go_sem]
  have K1 : ((w.alloc (.cells #[.int .i64 k0, .int .i64 k1, .int .i64 k2] 51)).alloc (.cells #[.int .i64 0, .int .i64 0, .int .i64 0, .int .i64 0, .int .i64 0, .int .i64 0] 52)).drew.cell? ⟨w.heap.size, 1, none⟩ = some (.int .i64 k1) := by simp [go_sem]
  have K2 : ((w.alloc (.cells #[.int .i64 k0, .int .i64 k1, .int .i64 k2] 51)).alloc (.cells #[.int .i64 0, .int .i64 0, .int .i64 0, .int .i64 0, .int .i64 0, .int .i64 0] 52)).drew.cell? ⟨w.heap.size, 2, none⟩ = some (.int .i64 k2) := by simp [go_sem]
  have A0 : ((w.alloc (.cells #[.int .i64 k0, .int .i64 k1, .int .i64 k2] 51)).alloc (.cells #[.int .i64 0, .int .i64 0, .int .i64 0, .int .i64 0, .int .i64 0, .int .i64 0] 52)).drew.cell? ⟨w.heap.size + 1, 0, none⟩ = some (.int .i64 0) := by simp [go_sem]
  have A1 : ((w.alloc (.cells #[.int .i64 k0, .int .i64 k1, .int .i64 k2] 51)).alloc (.cells #[.int .i64 0, .int .i64 0, .int .i64 0, .int .i64 0, .int .i64 0, .int .i64 0] 52)).drew.cell? ⟨w.heap.size + 1, 1, none⟩ = some (.int .i64 0) := by simp [go_sem]
  have A2 : ((w.alloc (.cells #[.int .i64 k0, .int .i64 k1, .int .i64 k2] 51)).alloc (.cells #[.int .i64 0, .int .i64 0, .int .i64 0, .int .i64 0, .int .i64 0, .int .i64 0] 52)).drew.cell? ⟨w.heap.size + 1, 2, none⟩ = some (.int .i64 0) := by simp [go_sem]
  have A3 : ((w.alloc (.cells #[.int .i64 k0, .int .i64 k1, .int .i64 k2] 51)).alloc (.cells #[.int .i64 0, .int .i64 0, .int .i64 0, .int .i64 0, .int .i64 0, .int .i64 0] 52)).drew.cell? ⟨w.heap.size + 1, 3, none⟩ = some (.int .i64 0) := by simp [go_sem]
  have A4 : ((w.alloc (.cells #[.int .i64 k0, .int .i64 k1, .int .i64 k2] 51)).alloc (.cells #[.int .i64 0, .int .i64 0, .int .i64 0, .int .i64 0, .int .i64 0, .int .i64 0] 52)).drew.cell? ⟨w.heap.size + 1, 4, none⟩ = some (.int .i64 0) := by simp [go_sem]
  have A5 : ((w.alloc (.cells #[.int .i64 k0, .int .i64 k1, .int .i64 k2] 51)).alloc (.cells #[.int .i64 0, .int .i64 0, .int .i64 0, .int .i64 0, .int .i64 0, .int .i64 0] 52)).drew.cell? ⟨w.heap.size + 1, 5, none⟩ = some (.int .i64 0) := by simp [go_sem]
  have Z0 : ((w.alloc (.cells #[.int .i64 k0, .int .i64 k1, .int .i64 k2] 51)).alloc (.cells #[.int .i64 0, .int .i64 0, .int .i64 0, .int .i64 0, .int .i64 0, .int .i64 0] 52)).drew.frozen? ⟨w.heap.size + 1, 0, none⟩ = false := by simp [go_sem]
  have Z1 : ((w.alloc (.cells #[.int .i64 k0, .int .i64 k1, .int .i64 k2] 51)).alloc (.cells #[.int .i64 0, .int .i64 0, .int .i64 0, .int .i64 0, .int .i64 0, .int .i64 0] 52)).drew.frozen? ⟨w.heap.size + 1, 1, none⟩ = false := by simp [go_sem]
  have Z2 : ((w.alloc (.cells #[.int .i64 k0, .int .i64 k1, .int .i64 k2] 51)).alloc (.cells #[.int .i64 0, .int .i64 0, .int .i64 0, .int .i64 0, .int .i64 0, .int .i64 0] 52)).drew.frozen? ⟨w.heap.size + 1, 2, none⟩ = false := by simp [go_sem]
  have Z3 : ((w.alloc (.cells #[.int .i64 k0, .int .i64 k1, .int .i64 k2] 51)).alloc (.cells #[.int .i64 0, .int .i64 0, .int .i64 0, .int .i64 0, .int .i64 0, .int .i64 0] 52)).drew.frozen? ⟨w.heap.size + 1, 3, none⟩ = false := by simp [go_sem]
  have Z4 : ((w.alloc (.cells #[.int .i64 k0, .int .i64 k1, .int .i64 k2] 51)).alloc (.cells #[.int .i64 0, .int .i64 0, .int .i64 0, .int .i64 0, .int .i64 0, .int .i64 0] 52)).drew.frozen? ⟨w.heap.size + 1, 4, none⟩ = false := by simp [go_sem]
  have Z5 : ((w.alloc (.cells #[.int .i64 k0, .int .i64 k1, .int .i64 k2] 51)).alloc (.cells #[.int .i64 0, .int .i64 0, .int .i64 0, .int .i64 0, .int .i64 0, .int .i64 0] 52)).drew.frozen? ⟨w.heap.size + 1, 5, none⟩ = false := by simp [go_sem]
  have B : Below w.heap.size w ((w.alloc (.cells #[.int .i64 k0, .int .i64 k1, .int .i64 k2] 51)).alloc (.cells #[.int .i64 0, .int .i64 0, .int .i64 0, .int .i64 0, .int .i64 0, .int .i64 0] 52)).drew := below_drewN' (grown.trans (grown.mono grown.size)) 1
  go_enter Tryd.func7, Tryd.ntmps7
  go_wp2_with fail
  refine wp_loop_rounds 4 ?_
  rw [rounds_succ]
  go_wp2_with fail
  refine region_tail 14 (by kernel_rfl) (by kernel_rfl) ?_
  simp only [List.take_succ_cons, List.take_zero, List.drop_succ_cons, List.drop_zero]
  generalize hW : World.drew _ = W0 at *
  clear hW
  iterate 4 still_step
  still_call (keepModAs _ i0.out (by omega) (by omega) E0.out)
  iterate 5 still_step
  still_call (keepModAs _ j0.out (by omega) (by omega) F0.out)
  iterate 3 still_step
  refine wpStill_nil ?_
  go_wp2_with fail
  have K0' : ((W0.setCell ⟨w.heap.size + 1, 0, none⟩ (.int .i64 (1 + p0))).setCell ⟨w.heap.size + 1, 1, none⟩ (.int .i64 (1 + q0))).drew.cell? ⟨w.heap.size, 0, none⟩ = some (.int .i64 k0) := by simp [go_sem, K0]
  have K1' : ((W0.setCell ⟨w.heap.size + 1, 0, none⟩ (.int .i64 (1 + p0))).setCell ⟨w.heap.size + 1, 1, none⟩ (.int .i64 (1 + q0))).drew.cell? ⟨w.heap.size, 1, none⟩ = some (.int .i64 k1) := by simp [go_sem, K1]
  have K2' : ((W0.setCell ⟨w.heap.size + 1, 0, none⟩ (.int .i64 (1 + p0))).setCell ⟨w.heap.size + 1, 1, none⟩ (.int .i64 (1 + q0))).drew.cell? ⟨w.heap.size, 2, none⟩ = some (.int .i64 k2) := by simp [go_sem, K2]
  have Z0' : ((W0.setCell ⟨w.heap.size + 1, 0, none⟩ (.int .i64 (1 + p0))).setCell ⟨w.heap.size + 1, 1, none⟩ (.int .i64 (1 + q0))).drew.frozen? ⟨w.heap.size + 1, 0, none⟩ = false := by simp [go_sem, Z0]
  have Z1' : ((W0.setCell ⟨w.heap.size + 1, 0, none⟩ (.int .i64 (1 + p0))).setCell ⟨w.heap.size + 1, 1, none⟩ (.int .i64 (1 + q0))).drew.frozen? ⟨w.heap.size + 1, 1, none⟩ = false := by simp [go_sem, Z1]
  have Z2' : ((W0.setCell ⟨w.heap.size + 1, 0, none⟩ (.int .i64 (1 + p0))).setCell ⟨w.heap.size + 1, 1, none⟩ (.int .i64 (1 + q0))).drew.frozen? ⟨w.heap.size + 1, 2, none⟩ = false := by simp [go_sem, Z2]
  have Z3' : ((W0.setCell ⟨w.heap.size + 1, 0, none⟩ (.int .i64 (1 + p0))).setCell ⟨w.heap.size + 1, 1, none⟩ (.int .i64 (1 + q0))).drew.frozen? ⟨w.heap.size + 1, 3, none⟩ = false := by simp [go_sem, Z3]
  have Z4' : ((W0.setCell ⟨w.heap.size + 1, 0, none⟩ (.int .i64 (1 + p0))).setCell ⟨w.heap.size + 1, 1, none⟩ (.int .i64 (1 + q0))).drew.frozen? ⟨w.heap.size + 1, 4, none⟩ = false := by simp [go_sem, Z4]
  have Z5' : ((W0.setCell ⟨w.heap.size + 1, 0, none⟩ (.int .i64 (1 + p0))).setCell ⟨w.heap.size + 1, 1, none⟩ (.int .i64 (1 + q0))).drew.frozen? ⟨w.heap.size + 1, 5, none⟩ = false := by simp [go_sem, Z5]
  have A0' : ((W0.setCell ⟨w.heap.size + 1, 0, none⟩ (.int .i64 (1 + p0))).setCell ⟨w.heap.size + 1, 1, none⟩ (.int .i64 (1 + q0))).drew.cell? ⟨w.heap.size + 1, 0, none⟩ = some (.int .i64 (1 + p0)) := by simp [go_sem, A0]
  have A1' : ((W0.setCell ⟨w.heap.size + 1, 0, none⟩ (.int .i64 (1 + p0))).setCell ⟨w.heap.size + 1, 1, none⟩ (.int .i64 (1 + q0))).drew.cell? ⟨w.heap.size + 1, 1, none⟩ = some (.int .i64 (1 + q0)) := by simp [go_sem, A1]
  have A2' : ((W0.setCell ⟨w.heap.size + 1, 0, none⟩ (.int .i64 (1 + p0))).setCell ⟨w.heap.size + 1, 1, none⟩ (.int .i64 (1 + q0))).drew.cell? ⟨w.heap.size + 1, 2, none⟩ = some (.int .i64 0) := by simp [go_sem, A2]
  have A3' : ((W0.setCell ⟨w.heap.size + 1, 0, none⟩ (.int .i64 (1 + p0))).setCell ⟨w.heap.size + 1, 1, none⟩ (.int .i64 (1 + q0))).drew.cell? ⟨w.heap.size + 1, 3, none⟩ = some (.int .i64 0) := by simp [go_sem, A3]
  have A4' : ((W0.setCell ⟨w.heap.size + 1, 0, none⟩ (.int .i64 (1 + p0))).setCell ⟨w.heap.size + 1, 1, none⟩ (.int .i64 (1 + q0))).drew.cell? ⟨w.heap.size + 1, 4, none⟩ = some (.int .i64 0) := by simp [go_sem, A4]
  have A5' : ((W0.setCell ⟨w.heap.size + 1, 0, none⟩ (.int .i64 (1 + p0))).setCell ⟨w.heap.size + 1, 1, none⟩ (.int .i64 (1 + q0))).drew.cell? ⟨w.heap.size + 1, 5, none⟩ = some (.int .i64 0) := by simp [go_sem, A5]
  have B' : Below w.heap.size w ((W0.setCell ⟨w.heap.size + 1, 0, none⟩ (.int .i64 (1 + p0))).setCell ⟨w.heap.size + 1, 1, none⟩ (.int .i64 (1 + q0))).drew := below_drewN' (((B.setCell (by simp) _).setCell (by simp) _)) 1
  clear K0 K1 K2 Z0 Z1 Z2 Z3 Z4 Z5 A0 A1 A2 A3 A4 A5 B
  have K0 := K0'
  have K1 := K1'
  have K2 := K2'
  have Z0 := Z0'
  have Z1 := Z1'
  have Z2 := Z2'
  have Z3 := Z3'
  have Z4 := Z4'
  have Z5 := Z5'
  have A0 := A0'
  have A1 := A1'
  have A2 := A2'
  have A3 := A3'
  have A4 := A4'
  have A5 := A5'
  have B := B'
  clear K0' K1' K2' Z0' Z1' Z2' Z3' Z4' Z5' A0' A1' A2' A3' A4' A5' B'
  rw [rounds_succ]
  go_wp2_with fail
  refine region_tail 14 (by kernel_rfl) (by kernel_rfl) ?_
  simp only [List.take_succ_cons, List.take_zero, List.drop_succ_cons, List.drop_zero]
  generalize hW : World.drew _ = W1 at *
  clear hW
  iterate 4 still_step
  still_call (keepModAs _ i1.out (by omega) (by omega) E1.out)
  iterate 5 still_step
  still_call (keepModAs _ j1.out (by omega) (by omega) F1.out)
  iterate 3 still_step
  refine wpStill_nil ?_
  go_wp2_with fail
  have K0' : ((W1.setCell ⟨w.heap.size + 1, 2, none⟩ (.int .i64 (1 + p1))).setCell ⟨w.heap.size + 1, 3, none⟩ (.int .i64 (1 + q1))).drew.cell? ⟨w.heap.size, 0, none⟩ = some (.int .i64 k0) := by simp [go_sem, K0]
  have K1' : ((W1.setCell ⟨w.heap.size + 1, 2, none⟩ (.int .i64 (1 + p1))).setCell ⟨w.heap.size + 1, 3, none⟩ (.int .i64 (1 + q1))).drew.cell? ⟨w.heap.size, 1, none⟩ = some (.int .i64 k1) := by simp [go_sem, K1]
  have K2' : ((W1.setCell ⟨w.heap.size + 1, 2, none⟩ (.int .i64 (1 + p1))).setCell ⟨w.heap.size + 1, 3, none⟩ (.int .i64 (1 + q1))).drew.cell? ⟨w.heap.size, 2, none⟩ = some (.int .i64 k2) := by simp [go_sem, K2]
  have Z0' : ((W1.setCell ⟨w.heap.size + 1, 2, none⟩ (.int .i64 (1 + p1))).setCell ⟨w.heap.size + 1, 3, none⟩ (.int .i64 (1 + q1))).drew.frozen? ⟨w.heap.size + 1, 0, none⟩ = false := by simp [go_sem, Z0]
  have Z1' : ((W1.setCell ⟨w.heap.size + 1, 2, none⟩ (.int .i64 (1 + p1))).setCell ⟨w.heap.size + 1, 3, none⟩ (.int .i64 (1 + q1))).drew.frozen? ⟨w.heap.size + 1, 1, none⟩ = false := by simp [go_sem, Z1]
  have Z2' : ((W1.setCell ⟨w.heap.size + 1, 2, none⟩ (.int .i64 (1 + p1))).setCell ⟨w.heap.size + 1, 3, none⟩ (.int .i64 (1 + q1))).drew.frozen? ⟨w.heap.size + 1, 2, none⟩ = false := by simp [go_sem, Z2]
  have Z3' : ((W1.setCell ⟨w.heap.size + 1, 2, none⟩ (.int .i64 (1 + p1))).setCell ⟨w.heap.size + 1, 3, none⟩ (.int .i64 (1 + q1))).drew.frozen? ⟨w.heap.size + 1, 3, none⟩ = false := by simp [go_sem, Z3]
  have Z4' : ((W1.setCell ⟨w.heap.size + 1, 2, none⟩ (.int .i64 (1 + p1))).setCell ⟨w.heap.size + 1, 3, none⟩ (.int .i64 (1 + q1))).drew.frozen? ⟨w.heap.size + 1, 4, none⟩ = false := by simp [go_sem, Z4]
  have Z5' : ((W1.setCell ⟨w.heap.size + 1, 2, none⟩ (.int .i64 (1 + p1))).setCell ⟨w.heap.size + 1, 3, none⟩ (.int .i64 (1 + q1))).drew.frozen? ⟨w.heap.size + 1, 5, none⟩ = false := by simp [go_sem, Z5]
  have A0' : ((W1.setCell ⟨w.heap.size + 1, 2, none⟩ (.int .i64 (1 + p1))).setCell ⟨w.heap.size + 1, 3, none⟩ (.int .i64 (1 + q1))).drew.cell? ⟨w.heap.size + 1, 0, none⟩ = some (.int .i64 (1 + p0)) := by simp [go_sem, A0]
  have A1' : ((W1.setCell ⟨w.heap.size + 1, 2, none⟩ (.int .i64 (1 + p1))).setCell ⟨w.heap.size + 1, 3, none⟩ (.int .i64 (1 + q1))).drew.cell? ⟨w.heap.size + 1, 1, none⟩ = some (.int .i64 (1 + q0)) := by simp [go_sem, A1]
  have A2' : ((W1.setCell ⟨w.heap.size + 1, 2, none⟩ (.int .i64 (1 + p1))).setCell ⟨w.heap.size + 1, 3, none⟩ (.int .i64 (1 + q1))).drew.cell? ⟨w.heap.size + 1, 2, none⟩ = some (.int .i64 (1 + p1)) := by simp [go_sem, A2]
  have A3' : ((W1.setCell ⟨w.heap.size + 1, 2, none⟩ (.int .i64 (1 + p1))).setCell ⟨w.heap.size + 1, 3, none⟩ (.int .i64 (1 + q1))).drew.cell? ⟨w.heap.size + 1, 3, none⟩ = some (.int .i64 (1 + q1)) := by simp [go_sem, A3]
  have A4' : ((W1.setCell ⟨w.heap.size + 1, 2, none⟩ (.int .i64 (1 + p1))).setCell ⟨w.heap.size + 1, 3, none⟩ (.int .i64 (1 + q1))).drew.cell? ⟨w.heap.size + 1, 4, none⟩ = some (.int .i64 0) := by simp [go_sem, A4]
  have A5' : ((W1.setCell ⟨w.heap.size + 1, 2, none⟩ (.int .i64 (1 + p1))).setCell ⟨w.heap.size + 1, 3, none⟩ (.int .i64 (1 + q1))).drew.cell? ⟨w.heap.size + 1, 5, none⟩ = some (.int .i64 0) := by simp [go_sem, A5]
  have B' : Below w.heap.size w ((W1.setCell ⟨w.heap.size + 1, 2, none⟩ (.int .i64 (1 + p1))).setCell ⟨w.heap.size + 1, 3, none⟩ (.int .i64 (1 + q1))).drew := below_drewN' (((B.setCell (by simp) _).setCell (by simp) _)) 1
  clear K0 K1 K2 Z0 Z1 Z2 Z3 Z4 Z5 A0 A1 A2 A3 A4 A5 B
  have K0 := K0'
  have K1 := K1'
  have K2 := K2'
  have Z0 := Z0'
  have Z1 := Z1'
  have Z2 := Z2'
  have Z3 := Z3'
  have Z4 := Z4'
  have Z5 := Z5'
  have A0 := A0'
  have A1 := A1'
  have A2 := A2'
  have A3 := A3'
  have A4 := A4'
  have A5 := A5'
  have B := B'
  clear K0' K1' K2' Z0' Z1' Z2' Z3' Z4' Z5' A0' A1' A2' A3' A4' A5' B'
  rw [rounds_succ]
  go_wp2_with fail
  refine region_tail 14 (by kernel_rfl) (by kernel_rfl) ?_
  simp only [List.take_succ_cons, List.take_zero, List.drop_succ_cons, List.drop_zero]
  generalize hW : World.drew _ = W2 at *
  clear hW
  iterate 4 still_step
  still_call (keepModAs _ i2.out (by omega) (by omega) E2.out)
  iterate 5 still_step
  still_call (keepModAs _ j2.out (by omega) (by omega) F2.out)
  iterate 3 still_step
  refine wpStill_nil ?_
  go_wp2_with fail
  have A0' : ((W2.setCell ⟨w.heap.size + 1, 4, none⟩ (.int .i64 (1 + p2))).setCell ⟨w.heap.size + 1, 5, none⟩ (.int .i64 (1 + q2))).cell? ⟨w.heap.size + 1, 0, none⟩ = some (.int .i64 (1 + p0)) := by simp [go_sem, A0]
  have A1' : ((W2.setCell ⟨w.heap.size + 1, 4, none⟩ (.int .i64 (1 + p2))).setCell ⟨w.heap.size + 1, 5, none⟩ (.int .i64 (1 + q2))).cell? ⟨w.heap.size + 1, 1, none⟩ = some (.int .i64 (1 + q0)) := by simp [go_sem, A1]
  have A2' : ((W2.setCell ⟨w.heap.size + 1, 4, none⟩ (.int .i64 (1 + p2))).setCell ⟨w.heap.size + 1, 5, none⟩ (.int .i64 (1 + q2))).cell? ⟨w.heap.size + 1, 2, none⟩ = some (.int .i64 (1 + p1)) := by simp [go_sem, A2]
  have A3' : ((W2.setCell ⟨w.heap.size + 1, 4, none⟩ (.int .i64 (1 + p2))).setCell ⟨w.heap.size + 1, 5, none⟩ (.int .i64 (1 + q2))).cell? ⟨w.heap.size + 1, 3, none⟩ = some (.int .i64 (1 + q1)) := by simp [go_sem, A3]
  have A4' : ((W2.setCell ⟨w.heap.size + 1, 4, none⟩ (.int .i64 (1 + p2))).setCell ⟨w.heap.size + 1, 5, none⟩ (.int .i64 (1 + q2))).cell? ⟨w.heap.size + 1, 4, none⟩ = some (.int .i64 (1 + p2)) := by simp [go_sem, A4]
  have A5' : ((W2.setCell ⟨w.heap.size + 1, 4, none⟩ (.int .i64 (1 + p2))).setCell ⟨w.heap.size + 1, 5, none⟩ (.int .i64 (1 + q2))).cell? ⟨w.heap.size + 1, 5, none⟩ = some (.int .i64 (1 + q2)) := by simp [go_sem, A5]
  have B' : Below w.heap.size w ((W2.setCell ⟨w.heap.size + 1, 4, none⟩ (.int .i64 (1 + p2))).setCell ⟨w.heap.size + 1, 5, none⟩ (.int .i64 (1 + q2))) := ((B.setCell (by simp) _).setCell (by simp) _)
  clear K0 K1 K2 Z0 Z1 Z2 Z3 Z4 Z5 A0 A1 A2 A3 A4 A5 B
  have A0 := A0'
  have A1 := A1'
  have A2 := A2'
  have A3 := A3'
  have A4 := A4'
  have A5 := A5'
  have B := B'
  clear A0' A1' A2' A3' A4' A5' B'
  generalize hW : (W2.setCell ⟨w.heap.size + 1, 4, none⟩ (.int .i64 (1 + p2))).setCell ⟨w.heap.size + 1, 5, none⟩ (.int .i64 (1 + q2)) = W3 at *
  clear hW
  rw [rounds_succ]
  go_wp2_with fail
  refine (beforeAs Q01.out _).mono ?_; rintro e y1 ⟨rfl, hb1⟩
  replace A0 := cell_later hb1 A0
  replace A1 := cell_later hb1 A1
  replace A2 := cell_later hb1 A2
  replace A3 := cell_later hb1 A3
  replace A4 := cell_later hb1 A4
  replace A5 := cell_later hb1 A5
  replace B := B.trans (hb1.mono B.size)
  go_wp2_with fail
  refine (beforeAs Q12.out _).mono ?_; rintro e y2 ⟨rfl, hb2⟩
  replace A0 := cell_later hb2 A0
  replace A1 := cell_later hb2 A1
  replace A2 := cell_later hb2 A2
  replace A3 := cell_later hb2 A3
  replace A4 := cell_later hb2 A4
  replace A5 := cell_later hb2 A5
  replace B := B.trans (hb2.mono B.size)
  go_wp2_with fail
  refine (beforeAs Q02.out _).mono ?_; rintro e y3 ⟨rfl, hb3⟩
  replace A0 := cell_later hb3 A0
  replace A1 := cell_later hb3 A1
  replace A2 := cell_later hb3 A2
  replace A3 := cell_later hb3 A3
  replace A4 := cell_later hb3 A4
  replace A5 := cell_later hb3 A5
  replace B := B.trans (hb3.mono B.size)
  go_wp2_with fail
  refine (beforeAs Q00.out _).mono ?_; rintro e y4 ⟨rfl, hb4⟩
  replace A0 := cell_later hb4 A0
  replace A1 := cell_later hb4 A1
  replace A2 := cell_later hb4 A2
  replace A3 := cell_later hb4 A3
  replace A4 := cell_later hb4 A4
  replace A5 := cell_later hb4 A5
  replace B := B.trans (hb4.mono B.size)
  go_wp2_with fail
  refine (beforeAs Q01.out _).mono ?_; rintro e y5 ⟨rfl, hb5⟩
  replace A0 := cell_later hb5 A0
  replace A1 := cell_later hb5 A1
  replace A2 := cell_later hb5 A2
  replace A3 := cell_later hb5 A3
  replace A4 := cell_later hb5 A4
  replace A5 := cell_later hb5 A5
  replace B := B.trans (hb5.mono B.size)
  go_wp2_with fail
  refine (beforeAs Q10.out _).mono ?_; rintro e y6 ⟨rfl, hb6⟩
  replace A0 := cell_later hb6 A0
  replace A1 := cell_later hb6 A1
  replace A2 := cell_later hb6 A2
  replace A3 := cell_later hb6 A3
  replace A4 := cell_later hb6 A4
  replace A5 := cell_later hb6 A5
  replace B := B.trans (hb6.mono B.size)
  go_wp2_with fail
  refine (hm1.out _).mono ?_; rintro e y7 ⟨rfl, hb7⟩
  replace A0 := cell_later hb7 A0
  replace A1 := cell_later hb7 A1
  replace A2 := cell_later hb7 A2
  replace A3 := cell_later hb7 A3
  replace A4 := cell_later hb7 A4
  replace A5 := cell_later hb7 A5
  replace B := B.trans (hb7.mono B.size)
  have g7 : Below y7.heap.size y7 (y7.alloc (.cells #[.int .i64 R, .int .i64 S, .int .i64 T, .int .i64 U] 35)) := grown
  replace A0 := cell_later g7 A0
  replace A1 := cell_later g7 A1
  replace A2 := cell_later g7 A2
  replace A3 := cell_later g7 A3
  replace A4 := cell_later g7 A4
  replace A5 := cell_later g7 A5
  replace B := B.trans (g7.mono B.size)
  have r0 : (y7.alloc (.cells #[.int .i64 R, .int .i64 S, .int .i64 T, .int .i64 U] 35)).cell? ⟨y7.heap.size, 0, none⟩ = some (.int .i64 R) := by simp [go_sem]
  have r1 : (y7.alloc (.cells #[.int .i64 R, .int .i64 S, .int .i64 T, .int .i64 U] 35)).cell? ⟨y7.heap.size, 1, none⟩ = some (.int .i64 S) := by simp [go_sem]
  have r2 : (y7.alloc (.cells #[.int .i64 R, .int .i64 S, .int .i64 T, .int .i64 U] 35)).cell? ⟨y7.heap.size, 2, none⟩ = some (.int .i64 T) := by simp [go_sem]
  have r3 : (y7.alloc (.cells #[.int .i64 R, .int .i64 S, .int .i64 T, .int .i64 U] 35)).cell? ⟨y7.heap.size, 3, none⟩ = some (.int .i64 U) := by simp [go_sem]
  go_wp2_with fail
  refine (hm2.out _).mono ?_; rintro e y8 ⟨rfl, hb8⟩
  replace A0 := cell_later hb8 A0
  replace A1 := cell_later hb8 A1
  replace A2 := cell_later hb8 A2
  replace A3 := cell_later hb8 A3
  replace A4 := cell_later hb8 A4
  replace A5 := cell_later hb8 A5
  replace r0 := cell_later hb8 r0
  replace r1 := cell_later hb8 r1
  replace r2 := cell_later hb8 r2
  replace r3 := cell_later hb8 r3
  replace B := B.trans (hb8.mono B.size)
  have g8 : Below y8.heap.size y8 (y8.alloc (.cells #[.int .i64 R, .int .i64 S, .int .i64 T, .int .i64 U] 35)) := grown
  replace A0 := cell_later g8 A0
  replace A1 := cell_later g8 A1
  replace A2 := cell_later g8 A2
  replace A3 := cell_later g8 A3
  replace A4 := cell_later g8 A4
  replace A5 := cell_later g8 A5
  replace r0 := cell_later g8 r0
  replace r1 := cell_later g8 r1
  replace r2 := cell_later g8 r2
  replace r3 := cell_later g8 r3
  replace B := B.trans (g8.mono B.size)
  have s0 : (y8.alloc (.cells #[.int .i64 R, .int .i64 S, .int .i64 T, .int .i64 U] 35)).cell? ⟨y8.heap.size, 0, none⟩ = some (.int .i64 R) := by simp [go_sem]
  have s1 : (y8.alloc (.cells #[.int .i64 R, .int .i64 S, .int .i64 T, .int .i64 U] 35)).cell? ⟨y8.heap.size, 1, none⟩ = some (.int .i64 S) := by simp [go_sem]
  have s2 : (y8.alloc (.cells #[.int .i64 R, .int .i64 S, .int .i64 T, .int .i64 U] 35)).cell? ⟨y8.heap.size, 2, none⟩ = some (.int .i64 T) := by simp [go_sem]
  have s3 : (y8.alloc (.cells #[.int .i64 R, .int .i64 S, .int .i64 T, .int .i64 U] 35)).cell? ⟨y8.heap.size, 3, none⟩ = some (.int .i64 U) := by simp [go_sem]
  go_wp2_with fail
  refine (hm3.out _).mono ?_; rintro e y9 ⟨rfl, hb9⟩
  replace A0 := cell_later hb9 A0
  replace A1 := cell_later hb9 A1
  replace A2 := cell_later hb9 A2
  replace A3 := cell_later hb9 A3
  replace A4 := cell_later hb9 A4
  replace A5 := cell_later hb9 A5
  replace r0 := cell_later hb9 r0
  replace r1 := cell_later hb9 r1
  replace r2 := cell_later hb9 r2
  replace r3 := cell_later hb9 r3
  replace s0 := cell_later hb9 s0
  replace s1 := cell_later hb9 s1
  replace s2 := cell_later hb9 s2
  replace s3 := cell_later hb9 s3
  replace B := B.trans (hb9.mono B.size)
  have g9 : Below y9.heap.size y9 (y9.alloc (.cells #[.int .i64 (1 + p2), .int .i64 (1 + q2), .int .i64 (1 + p2), .int .i64 (1 + q2)] 35)) := grown
  replace A0 := cell_later g9 A0
  replace A1 := cell_later g9 A1
  replace A2 := cell_later g9 A2
  replace A3 := cell_later g9 A3
  replace A4 := cell_later g9 A4
  replace A5 := cell_later g9 A5
  replace r0 := cell_later g9 r0
  replace r1 := cell_later g9 r1
  replace r2 := cell_later g9 r2
  replace r3 := cell_later g9 r3
  replace s0 := cell_later g9 s0
  replace s1 := cell_later g9 s1
  replace s2 := cell_later g9 s2
  replace s3 := cell_later g9 s3
  replace B := B.trans (g9.mono B.size)
  have t0 : (y9.alloc (.cells #[.int .i64 (1 + p2), .int .i64 (1 + q2), .int .i64 (1 + p2), .int .i64 (1 + q2)] 35)).cell? ⟨y9.heap.size, 0, none⟩ = some (.int .i64 (1 + p2)) := by simp [go_sem]
  have t1 : (y9.alloc (.cells #[.int .i64 (1 + p2), .int .i64 (1 + q2), .int .i64 (1 + p2), .int .i64 (1 + q2)] 35)).cell? ⟨y9.heap.size, 1, none⟩ = some (.int .i64 (1 + q2)) := by simp [go_sem]
  have t2 : (y9.alloc (.cells #[.int .i64 (1 + p2), .int .i64 (1 + q2), .int .i64 (1 + p2), .int .i64 (1 + q2)] 35)).cell? ⟨y9.heap.size, 2, none⟩ = some (.int .i64 (1 + p2)) := by simp [go_sem]
  have t3 : (y9.alloc (.cells #[.int .i64 (1 + p2), .int .i64 (1 + q2), .int .i64 (1 + p2), .int .i64 (1 + q2)] 35)).cell? ⟨y9.heap.size, 3, none⟩ = some (.int .i64 (1 + q2)) := by simp [go_sem]
  replace A0 := Gr.cell _ _ _ (Below.refl _ _) A0
  replace A1 := Gr.cell _ _ _ (Below.refl _ _) A1
  replace A2 := Gr.cell _ _ _ (Below.refl _ _) A2
  replace A3 := Gr.cell _ _ _ (Below.refl _ _) A3
  replace A4 := Gr.cell _ _ _ (Below.refl _ _) A4
  replace A5 := Gr.cell _ _ _ (Below.refl _ _) A5
  replace r0 := Gr.cell _ _ _ (Below.refl _ _) r0
  replace r1 := Gr.cell _ _ _ (Below.refl _ _) r1
  replace r2 := Gr.cell _ _ _ (Below.refl _ _) r2
  replace r3 := Gr.cell _ _ _ (Below.refl _ _) r3
  replace s0 := Gr.cell _ _ _ (Below.refl _ _) s0
  replace s1 := Gr.cell _ _ _ (Below.refl _ _) s1
  replace s2 := Gr.cell _ _ _ (Below.refl _ _) s2
  replace s3 := Gr.cell _ _ _ (Below.refl _ _) s3
  replace t0 := Gr.cell _ _ _ (Below.refl _ _) t0
  replace t1 := Gr.cell _ _ _ (Below.refl _ _) t1
  replace t2 := Gr.cell _ _ _ (Below.refl _ _) t2
  replace t3 := Gr.cell _ _ _ (Below.refl _ _) t3
  go_wp2_with fail
  generalize hW : y9.alloc (.cells #[.int .i64 (1 + p2), .int .i64 (1 + q2), .int .i64 (1 + p2), .int .i64 (1 + q2)] 35) = W at *
  clear hW
  have LG : ∀ u : Gr W, LibIs u.now := fun u => hL.below (B.trans (u.below.mono B.size))
  refine region_grown (by kernel_rfl) (by kernel_rfl) ?_
  repeat (go_big_quiet_step (first
    | (go_at_call 19; exact grown_of (fineAs RH.out.1 _))
    | (go_at_call 21; first | with_reducible exact grown_of (hasAs RH.out.2.1 _) | with_reducible exact grown_of (hasAs RH.out.2.2 _) | with_reducible exact grown_of (hasAs HV.out _))
    | (go_at_call 23; exact grown_of (meetAs HV.out _))
    | (go_at_call 25; exact grown_of (countAs CO.out _))
    | (go_at_call 8; exact grown_of (awakes _ (LG _)))))
  refine wpQuiet_nil ?_
  intro w3 hw3; obtain ⟨u, rfl⟩ := hw3
  go_wp2_with fail
  go_ret
  exact ⟨ret1 rfl, B.trans (u.below.mono B.size)⟩

set_option maxRecDepth 100000 in
set_option maxHeartbeats 4000000 in
theorem addrOrder_2 (k0 k1 k2 p0 p1 p2 q0 q1 q2 : Int) (w : World) (hk0 : I64 k0) (hk1 : I64 k1) (hk2 : I64 k2) (hL : LibIs w)
    (a0 : 0 ≤ p0 ∧ p0 < 1000) (b0 : 0 ≤ q0 ∧ q0 < 50) (a1 : 0 ≤ p1 ∧ p1 < 1000) (b1 : 0 ≤ q1 ∧ q1 < 50) (a2 : 0 ≤ p2 ∧ p2 < 1000) (b2 : 0 ≤ q2 ∧ q2 < 50)
    (e0 : modK k0 1000 = p0) (f0 : modK (k0.tdiv 1000) 50 = q0) (e1 : modK k1 1000 = p1) (f1 : modK (k1.tdiv 1000) 50 = q1) (e2 : modK k2 1000 = p2) (f2 : modK (k2.tdiv 1000) 50 = q2)
    (n1 : (p0 < p1 ∨ p0 = p1 ∧ q0 < q1)) (n2 : ¬ (p1 < p2 ∨ p1 = p2 ∧ q1 < q2)) :
    Calls Tryd.prog 7 #[.agg #[.int .i64 k0, .int .i64 k1, .int .i64 k2]] w fun e w' => e = .returned (.bool true) ∧ Below w.heap.size w w' := by
  have E0 := Lib.hid e0; have F0 := Lib.hid f0; have i0 := Lib.hid hk0; have j0 := Lib.hid (tdiv_i64 hk0)
  have c0 := Lib.hid (cell_mod a0 b0)
  have E1 := Lib.hid e1; have F1 := Lib.hid f1; have i1 := Lib.hid hk1; have j1 := Lib.hid (tdiv_i64 hk1)
  have c1 := Lib.hid (cell_mod a1 b1)
  have E2 := Lib.hid e2; have F2 := Lib.hid f2; have i2 := Lib.hid hk2; have j2 := Lib.hid (tdiv_i64 hk2)
  have c2 := Lib.hid (cell_mod a2 b2)
  have Q01 : Hid (beforeB (1 + p0) (1 + q0) (1 + p1) (1 + q1) = true) := Lib.hid (decide_eq_true (by omega))
  have Q12 : Hid (beforeB (1 + p1) (1 + q1) (1 + p2) (1 + q2) = false) := Lib.hid (decide_eq_false (by omega))
  have Q00 : Hid (beforeB (1 + p0) (1 + q0) (1 + p0) (1 + q0) = false) := Lib.hid (decide_eq_false (by omega))
  have Q10 : Hid (beforeB (1 + p1) (1 + q1) (1 + p0) (1 + q0) = false) := Lib.hid (decide_eq_false (by omega))
  clear n1 n2
  have RH := Lib.hid (rect_has c0.out c1.out)
  have CO := Lib.hid (count_one c2.out)
  obtain ⟨R, hR⟩ : ∃ R, lo (1 + p0) (1 + p1) = R := ⟨_, rfl⟩
  obtain ⟨S, hS⟩ : ∃ S, lo (1 + q0) (1 + q1) = S := ⟨_, rfl⟩
  obtain ⟨T, hT⟩ : ∃ T, hi (1 + p0) (1 + p1) = T := ⟨_, rfl⟩
  obtain ⟨U, hU⟩ : ∃ U, hi (1 + q0) (1 + q1) = U := ⟨_, rfl⟩
  rw [hR, hS, hT, hU] at RH
  obtain ⟨v, hv⟩ : ∃ v, hasB R S T U (1 + p2) (1 + q2) = v := ⟨_, rfl⟩
  have M1 := fun w => madeAs c0.out c1.out hR hS hT hU w
  have M2 := fun w => madeAs c1.out c0.out ((lo_comm _ _).trans hR) ((lo_comm _ _).trans hS) ((hi_comm _ _).trans hT) ((hi_comm _ _).trans hU) w
  have M3 := fun w => madeAs c2.out c2.out (lo_self _) (lo_self _) (hi_self _) (hi_self _) w
  have hm1 := Lib.hid M1; have hm2 := Lib.hid M2; have hm3 := Lib.hid M3; have HV := Lib.hid hv
  clear e0 e1 e2 f0 f1 f2 M1 M2 M3 hR hS hT hU hv
  unfold I64 at hk0 hk1 hk2
  have u0 : IntKind.i64.wrap (k0.tdiv 1000) = k0.tdiv 1000 := by have := j0.out; unfold I64 at this; rw [IntKind.wrap_i64]; omega
  have v0 : IntKind.i64.wrap (1 + p0) = 1 + p0 := by rw [IntKind.wrap_i64]; omega
  have x0 : IntKind.i64.wrap (1 + q0) = 1 + q0 := by rw [IntKind.wrap_i64]; omega
  have u1 : IntKind.i64.wrap (k1.tdiv 1000) = k1.tdiv 1000 := by have := j1.out; unfold I64 at this; rw [IntKind.wrap_i64]; omega
  have v1 : IntKind.i64.wrap (1 + p1) = 1 + p1 := by rw [IntKind.wrap_i64]; omega
  have x1 : IntKind.i64.wrap (1 + q1) = 1 + q1 := by rw [IntKind.wrap_i64]; omega
  have u2 : IntKind.i64.wrap (k2.tdiv 1000) = k2.tdiv 1000 := by have := j2.out; unfold I64 at this; rw [IntKind.wrap_i64]; omega
  have v2 : IntKind.i64.wrap (1 + p2) = 1 + p2 := by rw [IntKind.wrap_i64]; omega
  have x2 : IntKind.i64.wrap (1 + q2) = 1 + q2 := by rw [IntKind.wrap_i64]; omega
  have K0 : ((w.alloc (.cells #[.int .i64 k0, .int .i64 k1, .int .i64 k2] 51)).alloc (.cells #[.int .i64 0, .int .i64 0, .int .i64 0, .int .i64 0, .int .i64 0, .int .i64 0] 52)).drew.cell? ⟨w.heap.size, 0, none⟩ = some (.int .i64 k0) := by simp [go_sem]
  have K1 : ((w.alloc (.cells #[.int .i64 k0, .int .i64 k1, .int .i64 k2] 51)).alloc (.cells #[.int .i64 0, .int .i64 0, .int .i64 0, .int .i64 0, .int .i64 0, .int .i64 0] 52)).drew.cell? ⟨w.heap.size, 1, none⟩ = some (.int .i64 k1) := by simp [go_sem]
  have K2 : ((w.alloc (.cells #[.int .i64 k0, .int .i64 k1, .int .i64 k2] 51)).alloc (.cells #[.int .i64 0, .int .i64 0, .int .i64 0, .int .i64 0, .int .i64 0, .int .i64 0] 52)).drew.cell? ⟨w.heap.size, 2, none⟩ = some (.int .i64 k2) := by simp [go_sem]
  have A0 : ((w.alloc (.cells #[.int .i64 k0, .int .i64 k1, .int .i64 k2] 51)).alloc (.cells #[.int .i64 0, .int .i64 0, .int .i64 0, .int .i64 0, .int .i64 0, .int .i64 0] 52)).drew.cell? ⟨w.heap.size + 1, 0, none⟩ = some (.int .i64 0) := by simp [go_sem]
  have A1 : ((w.alloc (.cells #[.int .i64 k0, .int .i64 k1, .int .i64 k2] 51)).alloc (.cells #[.int .i64 0, .int .i64 0, .int .i64 0, .int .i64 0, .int .i64 0, .int .i64 0] 52)).drew.cell? ⟨w.heap.size + 1, 1, none⟩ = some (.int .i64 0) := by simp [go_sem]
  have A2 : ((w.alloc (.cells #[.int .i64 k0, .int .i64 k1, .int .i64 k2] 51)).alloc (.cells #[.int .i64 0, .int .i64 0, .int .i64 0, .int .i64 0, .int .i64 0, .int .i64 0] 52)).drew.cell? ⟨w.heap.size + 1, 2, none⟩ = some (.int .i64 0) := by simp [go_sem]
  have A3 : ((w.alloc (.cells #[.int .i64 k0, .int .i64 k1, .int .i64 k2] 51)).alloc (.cells #[.int .i64 0, .int .i64 0, .int .i64 0, .int .i64 0, .int .i64 0, .int .i64 0] 52)).drew.cell? ⟨w.heap.size + 1, 3, none⟩ = some (.int .i64 0) := by simp [go_sem]
  have A4 : ((w.alloc (.cells #[.int .i64 k0, .int .i64 k1, .int .i64 k2] 51)).alloc (.cells #[.int .i64 0, .int .i64 0, .int .i64 0, .int .i64 0, .int .i64 0, .int .i64 0] 52)).drew.cell? ⟨w.heap.size + 1, 4, none⟩ = some (.int .i64 0) := by simp [go_sem]
  have A5 : ((w.alloc (.cells #[.int .i64 k0, .int .i64 k1, .int .i64 k2] 51)).alloc (.cells #[.int .i64 0, .int .i64 0, .int .i64 0, .int .i64 0, .int .i64 0, .int .i64 0] 52)).drew.cell? ⟨w.heap.size + 1, 5, none⟩ = some (.int .i64 0) := by simp [go_sem]
  have Z0 : ((w.alloc (.cells #[.int .i64 k0, .int .i64 k1, .int .i64 k2] 51)).alloc (.cells #[.int .i64 0, .int .i64 0, .int .i64 0, .int .i64 0, .int .i64 0, .int .i64 0] 52)).drew.frozen? ⟨w.heap.size + 1, 0, none⟩ = false := by simp [go_sem]
  have Z1 : ((w.alloc (.cells #[.int .i64 k0, .int .i64 k1, .int .i64 k2] 51)).alloc (.cells #[.int .i64 0, .int .i64 0, .int .i64 0, .int .i64 0, .int .i64 0, .int .i64 0] 52)).drew.frozen? ⟨w.heap.size + 1, 1, none⟩ = false := by simp [go_sem]
  have Z2 : ((w.alloc (.cells #[.int .i64 k0, .int .i64 k1, .int .i64 k2] 51)).alloc (.cells #[.int .i64 0, .int .i64 0, .int .i64 0, .int .i64 0, .int .i64 0, .int .i64 0] 52)).drew.frozen? ⟨w.heap.size + 1, 2, none⟩ = false := by simp [go_sem]
  have Z3 : ((w.alloc (.cells #[.int .i64 k0, .int .i64 k1, .int .i64 k2] 51)).alloc (.cells #[.int .i64 0, .int .i64 0, .int .i64 0, .int .i64 0, .int .i64 0, .int .i64 0] 52)).drew.frozen? ⟨w.heap.size + 1, 3, none⟩ = false := by simp [go_sem]
  have Z4 : ((w.alloc (.cells #[.int .i64 k0, .int .i64 k1, .int .i64 k2] 51)).alloc (.cells #[.int .i64 0, .int .i64 0, .int .i64 0, .int .i64 0, .int .i64 0, .int .i64 0] 52)).drew.frozen? ⟨w.heap.size + 1, 4, none⟩ = false := by simp [go_sem]
  have Z5 : ((w.alloc (.cells #[.int .i64 k0, .int .i64 k1, .int .i64 k2] 51)).alloc (.cells #[.int .i64 0, .int .i64 0, .int .i64 0, .int .i64 0, .int .i64 0, .int .i64 0] 52)).drew.frozen? ⟨w.heap.size + 1, 5, none⟩ = false := by simp [go_sem]
  have B : Below w.heap.size w ((w.alloc (.cells #[.int .i64 k0, .int .i64 k1, .int .i64 k2] 51)).alloc (.cells #[.int .i64 0, .int .i64 0, .int .i64 0, .int .i64 0, .int .i64 0, .int .i64 0] 52)).drew := below_drewN' (grown.trans (grown.mono grown.size)) 1
  go_enter Tryd.func7, Tryd.ntmps7
  go_wp2_with fail
  refine wp_loop_rounds 4 ?_
  rw [rounds_succ]
  go_wp2_with fail
  refine region_tail 14 (by kernel_rfl) (by kernel_rfl) ?_
  simp only [List.take_succ_cons, List.take_zero, List.drop_succ_cons, List.drop_zero]
  generalize hW : World.drew _ = W0 at *
  clear hW
  iterate 4 still_step
  still_call (keepModAs _ i0.out (by omega) (by omega) E0.out)
  iterate 5 still_step
  still_call (keepModAs _ j0.out (by omega) (by omega) F0.out)
  iterate 3 still_step
  refine wpStill_nil ?_
  go_wp2_with fail
  have K0' : ((W0.setCell ⟨w.heap.size + 1, 0, none⟩ (.int .i64 (1 + p0))).setCell ⟨w.heap.size + 1, 1, none⟩ (.int .i64 (1 + q0))).drew.cell? ⟨w.heap.size, 0, none⟩ = some (.int .i64 k0) := by simp [go_sem, K0]
  have K1' : ((W0.setCell ⟨w.heap.size + 1, 0, none⟩ (.int .i64 (1 + p0))).setCell ⟨w.heap.size + 1, 1, none⟩ (.int .i64 (1 + q0))).drew.cell? ⟨w.heap.size, 1, none⟩ = some (.int .i64 k1) := by simp [go_sem, K1]
  have K2' : ((W0.setCell ⟨w.heap.size + 1, 0, none⟩ (.int .i64 (1 + p0))).setCell ⟨w.heap.size + 1, 1, none⟩ (.int .i64 (1 + q0))).drew.cell? ⟨w.heap.size, 2, none⟩ = some (.int .i64 k2) := by simp [go_sem, K2]
  have Z0' : ((W0.setCell ⟨w.heap.size + 1, 0, none⟩ (.int .i64 (1 + p0))).setCell ⟨w.heap.size + 1, 1, none⟩ (.int .i64 (1 + q0))).drew.frozen? ⟨w.heap.size + 1, 0, none⟩ = false := by simp [go_sem, Z0]
  have Z1' : ((W0.setCell ⟨w.heap.size + 1, 0, none⟩ (.int .i64 (1 + p0))).setCell ⟨w.heap.size + 1, 1, none⟩ (.int .i64 (1 + q0))).drew.frozen? ⟨w.heap.size + 1, 1, none⟩ = false := by simp [go_sem, Z1]
  have Z2' : ((W0.setCell ⟨w.heap.size + 1, 0, none⟩ (.int .i64 (1 + p0))).setCell ⟨w.heap.size + 1, 1, none⟩ (.int .i64 (1 + q0))).drew.frozen? ⟨w.heap.size + 1, 2, none⟩ = false := by simp [go_sem, Z2]
  have Z3' : ((W0.setCell ⟨w.heap.size + 1, 0, none⟩ (.int .i64 (1 + p0))).setCell ⟨w.heap.size + 1, 1, none⟩ (.int .i64 (1 + q0))).drew.frozen? ⟨w.heap.size + 1, 3, none⟩ = false := by simp [go_sem, Z3]
  have Z4' : ((W0.setCell ⟨w.heap.size + 1, 0, none⟩ (.int .i64 (1 + p0))).setCell ⟨w.heap.size + 1, 1, none⟩ (.int .i64 (1 + q0))).drew.frozen? ⟨w.heap.size + 1, 4, none⟩ = false := by simp [go_sem, Z4]
  have Z5' : ((W0.setCell ⟨w.heap.size + 1, 0, none⟩ (.int .i64 (1 + p0))).setCell ⟨w.heap.size + 1, 1, none⟩ (.int .i64 (1 + q0))).drew.frozen? ⟨w.heap.size + 1, 5, none⟩ = false := by simp [go_sem, Z5]
  have A0' : ((W0.setCell ⟨w.heap.size + 1, 0, none⟩ (.int .i64 (1 + p0))).setCell ⟨w.heap.size + 1, 1, none⟩ (.int .i64 (1 + q0))).drew.cell? ⟨w.heap.size + 1, 0, none⟩ = some (.int .i64 (1 + p0)) := by simp [go_sem, A0]
  have A1' : ((W0.setCell ⟨w.heap.size + 1, 0, none⟩ (.int .i64 (1 + p0))).setCell ⟨w.heap.size + 1, 1, none⟩ (.int .i64 (1 + q0))).drew.cell? ⟨w.heap.size + 1, 1, none⟩ = some (.int .i64 (1 + q0)) := by simp [go_sem, A1]
  have A2' : ((W0.setCell ⟨w.heap.size + 1, 0, none⟩ (.int .i64 (1 + p0))).setCell ⟨w.heap.size + 1, 1, none⟩ (.int .i64 (1 + q0))).drew.cell? ⟨w.heap.size + 1, 2, none⟩ = some (.int .i64 0) := by simp [go_sem, A2]
  have A3' : ((W0.setCell ⟨w.heap.size + 1, 0, none⟩ (.int .i64 (1 + p0))).setCell ⟨w.heap.size + 1, 1, none⟩ (.int .i64 (1 + q0))).drew.cell? ⟨w.heap.size + 1, 3, none⟩ = some (.int .i64 0) := by simp [go_sem, A3]
  have A4' : ((W0.setCell ⟨w.heap.size + 1, 0, none⟩ (.int .i64 (1 + p0))).setCell ⟨w.heap.size + 1, 1, none⟩ (.int .i64 (1 + q0))).drew.cell? ⟨w.heap.size + 1, 4, none⟩ = some (.int .i64 0) := by simp [go_sem, A4]
  have A5' : ((W0.setCell ⟨w.heap.size + 1, 0, none⟩ (.int .i64 (1 + p0))).setCell ⟨w.heap.size + 1, 1, none⟩ (.int .i64 (1 + q0))).drew.cell? ⟨w.heap.size + 1, 5, none⟩ = some (.int .i64 0) := by simp [go_sem, A5]
  have B' : Below w.heap.size w ((W0.setCell ⟨w.heap.size + 1, 0, none⟩ (.int .i64 (1 + p0))).setCell ⟨w.heap.size + 1, 1, none⟩ (.int .i64 (1 + q0))).drew := below_drewN' (((B.setCell (by simp) _).setCell (by simp) _)) 1
  clear K0 K1 K2 Z0 Z1 Z2 Z3 Z4 Z5 A0 A1 A2 A3 A4 A5 B
  have K0 := K0'
  have K1 := K1'
  have K2 := K2'
  have Z0 := Z0'
  have Z1 := Z1'
  have Z2 := Z2'
  have Z3 := Z3'
  have Z4 := Z4'
  have Z5 := Z5'
  have A0 := A0'
  have A1 := A1'
  have A2 := A2'
  have A3 := A3'
  have A4 := A4'
  have A5 := A5'
  have B := B'
  clear K0' K1' K2' Z0' Z1' Z2' Z3' Z4' Z5' A0' A1' A2' A3' A4' A5' B'
  rw [rounds_succ]
  go_wp2_with fail
  refine region_tail 14 (by kernel_rfl) (by kernel_rfl) ?_
  simp only [List.take_succ_cons, List.take_zero, List.drop_succ_cons, List.drop_zero]
  generalize hW : World.drew _ = W1 at *
  clear hW
  iterate 4 still_step
  still_call (keepModAs _ i1.out (by omega) (by omega) E1.out)
  iterate 5 still_step
  still_call (keepModAs _ j1.out (by omega) (by omega) F1.out)
  iterate 3 still_step
  refine wpStill_nil ?_
  go_wp2_with fail
  have K0' : ((W1.setCell ⟨w.heap.size + 1, 2, none⟩ (.int .i64 (1 + p1))).setCell ⟨w.heap.size + 1, 3, none⟩ (.int .i64 (1 + q1))).drew.cell? ⟨w.heap.size, 0, none⟩ = some (.int .i64 k0) := by simp [go_sem, K0]
  have K1' : ((W1.setCell ⟨w.heap.size + 1, 2, none⟩ (.int .i64 (1 + p1))).setCell ⟨w.heap.size + 1, 3, none⟩ (.int .i64 (1 + q1))).drew.cell? ⟨w.heap.size, 1, none⟩ = some (.int .i64 k1) := by simp [go_sem, K1]
  have K2' : ((W1.setCell ⟨w.heap.size + 1, 2, none⟩ (.int .i64 (1 + p1))).setCell ⟨w.heap.size + 1, 3, none⟩ (.int .i64 (1 + q1))).drew.cell? ⟨w.heap.size, 2, none⟩ = some (.int .i64 k2) := by simp [go_sem, K2]
  have Z0' : ((W1.setCell ⟨w.heap.size + 1, 2, none⟩ (.int .i64 (1 + p1))).setCell ⟨w.heap.size + 1, 3, none⟩ (.int .i64 (1 + q1))).drew.frozen? ⟨w.heap.size + 1, 0, none⟩ = false := by simp [go_sem, Z0]
  have Z1' : ((W1.setCell ⟨w.heap.size + 1, 2, none⟩ (.int .i64 (1 + p1))).setCell ⟨w.heap.size + 1, 3, none⟩ (.int .i64 (1 + q1))).drew.frozen? ⟨w.heap.size + 1, 1, none⟩ = false := by simp [go_sem, Z1]
  have Z2' : ((W1.setCell ⟨w.heap.size + 1, 2, none⟩ (.int .i64 (1 + p1))).setCell ⟨w.heap.size + 1, 3, none⟩ (.int .i64 (1 + q1))).drew.frozen? ⟨w.heap.size + 1, 2, none⟩ = false := by simp [go_sem, Z2]
  have Z3' : ((W1.setCell ⟨w.heap.size + 1, 2, none⟩ (.int .i64 (1 + p1))).setCell ⟨w.heap.size + 1, 3, none⟩ (.int .i64 (1 + q1))).drew.frozen? ⟨w.heap.size + 1, 3, none⟩ = false := by simp [go_sem, Z3]
  have Z4' : ((W1.setCell ⟨w.heap.size + 1, 2, none⟩ (.int .i64 (1 + p1))).setCell ⟨w.heap.size + 1, 3, none⟩ (.int .i64 (1 + q1))).drew.frozen? ⟨w.heap.size + 1, 4, none⟩ = false := by simp [go_sem, Z4]
  have Z5' : ((W1.setCell ⟨w.heap.size + 1, 2, none⟩ (.int .i64 (1 + p1))).setCell ⟨w.heap.size + 1, 3, none⟩ (.int .i64 (1 + q1))).drew.frozen? ⟨w.heap.size + 1, 5, none⟩ = false := by simp [go_sem, Z5]
  have A0' : ((W1.setCell ⟨w.heap.size + 1, 2, none⟩ (.int .i64 (1 + p1))).setCell ⟨w.heap.size + 1, 3, none⟩ (.int .i64 (1 + q1))).drew.cell? ⟨w.heap.size + 1, 0, none⟩ = some (.int .i64 (1 + p0)) := by simp [go_sem, A0]
  have A1' : ((W1.setCell ⟨w.heap.size + 1, 2, none⟩ (.int .i64 (1 + p1))).setCell ⟨w.heap.size + 1, 3, none⟩ (.int .i64 (1 + q1))).drew.cell? ⟨w.heap.size + 1, 1, none⟩ = some (.int .i64 (1 + q0)) := by simp [go_sem, A1]
  have A2' : ((W1.setCell ⟨w.heap.size + 1, 2, none⟩ (.int .i64 (1 + p1))).setCell ⟨w.heap.size + 1, 3, none⟩ (.int .i64 (1 + q1))).drew.cell? ⟨w.heap.size + 1, 2, none⟩ = some (.int .i64 (1 + p1)) := by simp [go_sem, A2]
  have A3' : ((W1.setCell ⟨w.heap.size + 1, 2, none⟩ (.int .i64 (1 + p1))).setCell ⟨w.heap.size + 1, 3, none⟩ (.int .i64 (1 + q1))).drew.cell? ⟨w.heap.size + 1, 3, none⟩ = some (.int .i64 (1 + q1)) := by simp [go_sem, A3]
  have A4' : ((W1.setCell ⟨w.heap.size + 1, 2, none⟩ (.int .i64 (1 + p1))).setCell ⟨w.heap.size + 1, 3, none⟩ (.int .i64 (1 + q1))).drew.cell? ⟨w.heap.size + 1, 4, none⟩ = some (.int .i64 0) := by simp [go_sem, A4]
  have A5' : ((W1.setCell ⟨w.heap.size + 1, 2, none⟩ (.int .i64 (1 + p1))).setCell ⟨w.heap.size + 1, 3, none⟩ (.int .i64 (1 + q1))).drew.cell? ⟨w.heap.size + 1, 5, none⟩ = some (.int .i64 0) := by simp [go_sem, A5]
  have B' : Below w.heap.size w ((W1.setCell ⟨w.heap.size + 1, 2, none⟩ (.int .i64 (1 + p1))).setCell ⟨w.heap.size + 1, 3, none⟩ (.int .i64 (1 + q1))).drew := below_drewN' (((B.setCell (by simp) _).setCell (by simp) _)) 1
  clear K0 K1 K2 Z0 Z1 Z2 Z3 Z4 Z5 A0 A1 A2 A3 A4 A5 B
  have K0 := K0'
  have K1 := K1'
  have K2 := K2'
  have Z0 := Z0'
  have Z1 := Z1'
  have Z2 := Z2'
  have Z3 := Z3'
  have Z4 := Z4'
  have Z5 := Z5'
  have A0 := A0'
  have A1 := A1'
  have A2 := A2'
  have A3 := A3'
  have A4 := A4'
  have A5 := A5'
  have B := B'
  clear K0' K1' K2' Z0' Z1' Z2' Z3' Z4' Z5' A0' A1' A2' A3' A4' A5' B'
  rw [rounds_succ]
  go_wp2_with fail
  refine region_tail 14 (by kernel_rfl) (by kernel_rfl) ?_
  simp only [List.take_succ_cons, List.take_zero, List.drop_succ_cons, List.drop_zero]
  generalize hW : World.drew _ = W2 at *
  clear hW
  iterate 4 still_step
  still_call (keepModAs _ i2.out (by omega) (by omega) E2.out)
  iterate 5 still_step
  still_call (keepModAs _ j2.out (by omega) (by omega) F2.out)
  iterate 3 still_step
  refine wpStill_nil ?_
  go_wp2_with fail
  have A0' : ((W2.setCell ⟨w.heap.size + 1, 4, none⟩ (.int .i64 (1 + p2))).setCell ⟨w.heap.size + 1, 5, none⟩ (.int .i64 (1 + q2))).cell? ⟨w.heap.size + 1, 0, none⟩ = some (.int .i64 (1 + p0)) := by simp [go_sem, A0]
  have A1' : ((W2.setCell ⟨w.heap.size + 1, 4, none⟩ (.int .i64 (1 + p2))).setCell ⟨w.heap.size + 1, 5, none⟩ (.int .i64 (1 + q2))).cell? ⟨w.heap.size + 1, 1, none⟩ = some (.int .i64 (1 + q0)) := by simp [go_sem, A1]
  have A2' : ((W2.setCell ⟨w.heap.size + 1, 4, none⟩ (.int .i64 (1 + p2))).setCell ⟨w.heap.size + 1, 5, none⟩ (.int .i64 (1 + q2))).cell? ⟨w.heap.size + 1, 2, none⟩ = some (.int .i64 (1 + p1)) := by simp [go_sem, A2]
  have A3' : ((W2.setCell ⟨w.heap.size + 1, 4, none⟩ (.int .i64 (1 + p2))).setCell ⟨w.heap.size + 1, 5, none⟩ (.int .i64 (1 + q2))).cell? ⟨w.heap.size + 1, 3, none⟩ = some (.int .i64 (1 + q1)) := by simp [go_sem, A3]
  have A4' : ((W2.setCell ⟨w.heap.size + 1, 4, none⟩ (.int .i64 (1 + p2))).setCell ⟨w.heap.size + 1, 5, none⟩ (.int .i64 (1 + q2))).cell? ⟨w.heap.size + 1, 4, none⟩ = some (.int .i64 (1 + p2)) := by simp [go_sem, A4]
  have A5' : ((W2.setCell ⟨w.heap.size + 1, 4, none⟩ (.int .i64 (1 + p2))).setCell ⟨w.heap.size + 1, 5, none⟩ (.int .i64 (1 + q2))).cell? ⟨w.heap.size + 1, 5, none⟩ = some (.int .i64 (1 + q2)) := by simp [go_sem, A5]
  have B' : Below w.heap.size w ((W2.setCell ⟨w.heap.size + 1, 4, none⟩ (.int .i64 (1 + p2))).setCell ⟨w.heap.size + 1, 5, none⟩ (.int .i64 (1 + q2))) := ((B.setCell (by simp) _).setCell (by simp) _)
  clear K0 K1 K2 Z0 Z1 Z2 Z3 Z4 Z5 A0 A1 A2 A3 A4 A5 B
  have A0 := A0'
  have A1 := A1'
  have A2 := A2'
  have A3 := A3'
  have A4 := A4'
  have A5 := A5'
  have B := B'
  clear A0' A1' A2' A3' A4' A5' B'
  generalize hW : (W2.setCell ⟨w.heap.size + 1, 4, none⟩ (.int .i64 (1 + p2))).setCell ⟨w.heap.size + 1, 5, none⟩ (.int .i64 (1 + q2)) = W3 at *
  clear hW
  rw [rounds_succ]
  go_wp2_with fail
  refine (beforeAs Q01.out _).mono ?_; rintro e y1 ⟨rfl, hb1⟩
  replace A0 := cell_later hb1 A0
  replace A1 := cell_later hb1 A1
  replace A2 := cell_later hb1 A2
  replace A3 := cell_later hb1 A3
  replace A4 := cell_later hb1 A4
  replace A5 := cell_later hb1 A5
  replace B := B.trans (hb1.mono B.size)
  go_wp2_with fail
  refine (beforeAs Q12.out _).mono ?_; rintro e y2 ⟨rfl, hb2⟩
  replace A0 := cell_later hb2 A0
  replace A1 := cell_later hb2 A1
  replace A2 := cell_later hb2 A2
  replace A3 := cell_later hb2 A3
  replace A4 := cell_later hb2 A4
  replace A5 := cell_later hb2 A5
  replace B := B.trans (hb2.mono B.size)
  go_wp2_with fail
  refine (beforeAs Q00.out _).mono ?_; rintro e y3 ⟨rfl, hb3⟩
  replace A0 := cell_later hb3 A0
  replace A1 := cell_later hb3 A1
  replace A2 := cell_later hb3 A2
  replace A3 := cell_later hb3 A3
  replace A4 := cell_later hb3 A4
  replace A5 := cell_later hb3 A5
  replace B := B.trans (hb3.mono B.size)
  go_wp2_with fail
  refine (beforeAs Q01.out _).mono ?_; rintro e y4 ⟨rfl, hb4⟩
  replace A0 := cell_later hb4 A0
  replace A1 := cell_later hb4 A1
  replace A2 := cell_later hb4 A2
  replace A3 := cell_later hb4 A3
  replace A4 := cell_later hb4 A4
  replace A5 := cell_later hb4 A5
  replace B := B.trans (hb4.mono B.size)
  go_wp2_with fail
  refine (beforeAs Q10.out _).mono ?_; rintro e y5 ⟨rfl, hb5⟩
  replace A0 := cell_later hb5 A0
  replace A1 := cell_later hb5 A1
  replace A2 := cell_later hb5 A2
  replace A3 := cell_later hb5 A3
  replace A4 := cell_later hb5 A4
  replace A5 := cell_later hb5 A5
  replace B := B.trans (hb5.mono B.size)
  go_wp2_with fail
  refine (hm1.out _).mono ?_; rintro e y6 ⟨rfl, hb6⟩
  replace A0 := cell_later hb6 A0
  replace A1 := cell_later hb6 A1
  replace A2 := cell_later hb6 A2
  replace A3 := cell_later hb6 A3
  replace A4 := cell_later hb6 A4
  replace A5 := cell_later hb6 A5
  replace B := B.trans (hb6.mono B.size)
  have g6 : Below y6.heap.size y6 (y6.alloc (.cells #[.int .i64 R, .int .i64 S, .int .i64 T, .int .i64 U] 35)) := grown
  replace A0 := cell_later g6 A0
  replace A1 := cell_later g6 A1
  replace A2 := cell_later g6 A2
  replace A3 := cell_later g6 A3
  replace A4 := cell_later g6 A4
  replace A5 := cell_later g6 A5
  replace B := B.trans (g6.mono B.size)
  have r0 : (y6.alloc (.cells #[.int .i64 R, .int .i64 S, .int .i64 T, .int .i64 U] 35)).cell? ⟨y6.heap.size, 0, none⟩ = some (.int .i64 R) := by simp [go_sem]
  have r1 : (y6.alloc (.cells #[.int .i64 R, .int .i64 S, .int .i64 T, .int .i64 U] 35)).cell? ⟨y6.heap.size, 1, none⟩ = some (.int .i64 S) := by simp [go_sem]
  have r2 : (y6.alloc (.cells #[.int .i64 R, .int .i64 S, .int .i64 T, .int .i64 U] 35)).cell? ⟨y6.heap.size, 2, none⟩ = some (.int .i64 T) := by simp [go_sem]
  have r3 : (y6.alloc (.cells #[.int .i64 R, .int .i64 S, .int .i64 T, .int .i64 U] 35)).cell? ⟨y6.heap.size, 3, none⟩ = some (.int .i64 U) := by simp [go_sem]
  go_wp2_with fail
  refine (hm2.out _).mono ?_; rintro e y7 ⟨rfl, hb7⟩
  replace A0 := cell_later hb7 A0
  replace A1 := cell_later hb7 A1
  replace A2 := cell_later hb7 A2
  replace A3 := cell_later hb7 A3
  replace A4 := cell_later hb7 A4
  replace A5 := cell_later hb7 A5
  replace r0 := cell_later hb7 r0
  replace r1 := cell_later hb7 r1
  replace r2 := cell_later hb7 r2
  replace r3 := cell_later hb7 r3
  replace B := B.trans (hb7.mono B.size)
  have g7 : Below y7.heap.size y7 (y7.alloc (.cells #[.int .i64 R, .int .i64 S, .int .i64 T, .int .i64 U] 35)) := grown
  replace A0 := cell_later g7 A0
  replace A1 := cell_later g7 A1
  replace A2 := cell_later g7 A2
  replace A3 := cell_later g7 A3
  replace A4 := cell_later g7 A4
  replace A5 := cell_later g7 A5
  replace r0 := cell_later g7 r0
  replace r1 := cell_later g7 r1
  replace r2 := cell_later g7 r2
  replace r3 := cell_later g7 r3
  replace B := B.trans (g7.mono B.size)
  have s0 : (y7.alloc (.cells #[.int .i64 R, .int .i64 S, .int .i64 T, .int .i64 U] 35)).cell? ⟨y7.heap.size, 0, none⟩ = some (.int .i64 R) := by simp [go_sem]
  have s1 : (y7.alloc (.cells #[.int .i64 R, .int .i64 S, .int .i64 T, .int .i64 U] 35)).cell? ⟨y7.heap.size, 1, none⟩ = some (.int .i64 S) := by simp [go_sem]
  have s2 : (y7.alloc (.cells #[.int .i64 R, .int .i64 S, .int .i64 T, .int .i64 U] 35)).cell? ⟨y7.heap.size, 2, none⟩ = some (.int .i64 T) := by simp [go_sem]
  have s3 : (y7.alloc (.cells #[.int .i64 R, .int .i64 S, .int .i64 T, .int .i64 U] 35)).cell? ⟨y7.heap.size, 3, none⟩ = some (.int .i64 U) := by simp [go_sem]
  go_wp2_with fail
  refine (hm3.out _).mono ?_; rintro e y8 ⟨rfl, hb8⟩
  replace A0 := cell_later hb8 A0
  replace A1 := cell_later hb8 A1
  replace A2 := cell_later hb8 A2
  replace A3 := cell_later hb8 A3
  replace A4 := cell_later hb8 A4
  replace A5 := cell_later hb8 A5
  replace r0 := cell_later hb8 r0
  replace r1 := cell_later hb8 r1
  replace r2 := cell_later hb8 r2
  replace r3 := cell_later hb8 r3
  replace s0 := cell_later hb8 s0
  replace s1 := cell_later hb8 s1
  replace s2 := cell_later hb8 s2
  replace s3 := cell_later hb8 s3
  replace B := B.trans (hb8.mono B.size)
  have g8 : Below y8.heap.size y8 (y8.alloc (.cells #[.int .i64 (1 + p2), .int .i64 (1 + q2), .int .i64 (1 + p2), .int .i64 (1 + q2)] 35)) := grown
  replace A0 := cell_later g8 A0
  replace A1 := cell_later g8 A1
  replace A2 := cell_later g8 A2
  replace A3 := cell_later g8 A3
  replace A4 := cell_later g8 A4
  replace A5 := cell_later g8 A5
  replace r0 := cell_later g8 r0
  replace r1 := cell_later g8 r1
  replace r2 := cell_later g8 r2
  replace r3 := cell_later g8 r3
  replace s0 := cell_later g8 s0
  replace s1 := cell_later g8 s1
  replace s2 := cell_later g8 s2
  replace s3 := cell_later g8 s3
  replace B := B.trans (g8.mono B.size)
  have t0 : (y8.alloc (.cells #[.int .i64 (1 + p2), .int .i64 (1 + q2), .int .i64 (1 + p2), .int .i64 (1 + q2)] 35)).cell? ⟨y8.heap.size, 0, none⟩ = some (.int .i64 (1 + p2)) := by simp [go_sem]
  have t1 : (y8.alloc (.cells #[.int .i64 (1 + p2), .int .i64 (1 + q2), .int .i64 (1 + p2), .int .i64 (1 + q2)] 35)).cell? ⟨y8.heap.size, 1, none⟩ = some (.int .i64 (1 + q2)) := by simp [go_sem]
  have t2 : (y8.alloc (.cells #[.int .i64 (1 + p2), .int .i64 (1 + q2), .int .i64 (1 + p2), .int .i64 (1 + q2)] 35)).cell? ⟨y8.heap.size, 2, none⟩ = some (.int .i64 (1 + p2)) := by simp [go_sem]
  have t3 : (y8.alloc (.cells #[.int .i64 (1 + p2), .int .i64 (1 + q2), .int .i64 (1 + p2), .int .i64 (1 + q2)] 35)).cell? ⟨y8.heap.size, 3, none⟩ = some (.int .i64 (1 + q2)) := by simp [go_sem]
  replace A0 := Gr.cell _ _ _ (Below.refl _ _) A0
  replace A1 := Gr.cell _ _ _ (Below.refl _ _) A1
  replace A2 := Gr.cell _ _ _ (Below.refl _ _) A2
  replace A3 := Gr.cell _ _ _ (Below.refl _ _) A3
  replace A4 := Gr.cell _ _ _ (Below.refl _ _) A4
  replace A5 := Gr.cell _ _ _ (Below.refl _ _) A5
  replace r0 := Gr.cell _ _ _ (Below.refl _ _) r0
  replace r1 := Gr.cell _ _ _ (Below.refl _ _) r1
  replace r2 := Gr.cell _ _ _ (Below.refl _ _) r2
  replace r3 := Gr.cell _ _ _ (Below.refl _ _) r3
  replace s0 := Gr.cell _ _ _ (Below.refl _ _) s0
  replace s1 := Gr.cell _ _ _ (Below.refl _ _) s1
  replace s2 := Gr.cell _ _ _ (Below.refl _ _) s2
  replace s3 := Gr.cell _ _ _ (Below.refl _ _) s3
  replace t0 := Gr.cell _ _ _ (Below.refl _ _) t0
  replace t1 := Gr.cell _ _ _ (Below.refl _ _) t1
  replace t2 := Gr.cell _ _ _ (Below.refl _ _) t2
  replace t3 := Gr.cell _ _ _ (Below.refl _ _) t3
  go_wp2_with fail
  generalize hW : y8.alloc (.cells #[.int .i64 (1 + p2), .int .i64 (1 + q2), .int .i64 (1 + p2), .int .i64 (1 + q2)] 35) = W at *
  clear hW
  have LG : ∀ u : Gr W, LibIs u.now := fun u => hL.below (B.trans (u.below.mono B.size))
  refine region_grown (by kernel_rfl) (by kernel_rfl) ?_
  repeat (go_big_quiet_step (first
    | (go_at_call 19; exact grown_of (fineAs RH.out.1 _))
    | (go_at_call 21; first | with_reducible exact grown_of (hasAs RH.out.2.1 _) | with_reducible exact grown_of (hasAs RH.out.2.2 _) | with_reducible exact grown_of (hasAs HV.out _))
    | (go_at_call 23; exact grown_of (meetAs HV.out _))
    | (go_at_call 25; exact grown_of (countAs CO.out _))
    | (go_at_call 8; exact grown_of (awakes _ (LG _)))))
  refine wpQuiet_nil ?_
  intro w3 hw3; obtain ⟨u, rfl⟩ := hw3
  go_wp2_with fail
  go_ret
  exact ⟨ret1 rfl, B.trans (u.below.mono B.size)⟩

set_option maxRecDepth 100000 in
set_option maxHeartbeats 4000000 in
theorem addrOrder_3 (k0 k1 k2 p0 p1 p2 q0 q1 q2 : Int) (w : World) (hk0 : I64 k0) (hk1 : I64 k1) (hk2 : I64 k2) (hL : LibIs w)
    (a0 : 0 ≤ p0 ∧ p0 < 1000) (b0 : 0 ≤ q0 ∧ q0 < 50) (a1 : 0 ≤ p1 ∧ p1 < 1000) (b1 : 0 ≤ q1 ∧ q1 < 50) (a2 : 0 ≤ p2 ∧ p2 < 1000) (b2 : 0 ≤ q2 ∧ q2 < 50)
    (e0 : modK k0 1000 = p0) (f0 : modK (k0.tdiv 1000) 50 = q0) (e1 : modK k1 1000 = p1) (f1 : modK (k1.tdiv 1000) 50 = q1) (e2 : modK k2 1000 = p2) (f2 : modK (k2.tdiv 1000) 50 = q2)
    (n1 : ¬ (p0 < p1 ∨ p0 = p1 ∧ q0 < q1)) :
    Calls Tryd.prog 7 #[.agg #[.int .i64 k0, .int .i64 k1, .int .i64 k2]] w fun e w' => e = .returned (.bool true) ∧ Below w.heap.size w w' := by
  have E0 := Lib.hid e0; have F0 := Lib.hid f0; have i0 := Lib.hid hk0; have j0 := Lib.hid (tdiv_i64 hk0)
  have c0 := Lib.hid (cell_mod a0 b0)
  have E1 := Lib.hid e1; have F1 := Lib.hid f1; have i1 := Lib.hid hk1; have j1 := Lib.hid (tdiv_i64 hk1)
  have c1 := Lib.hid (cell_mod a1 b1)
  have E2 := Lib.hid e2; have F2 := Lib.hid f2; have i2 := Lib.hid hk2; have j2 := Lib.hid (tdiv_i64 hk2)
  have c2 := Lib.hid (cell_mod a2 b2)
  have Q01 : Hid (beforeB (1 + p0) (1 + q0) (1 + p1) (1 + q1) = false) := Lib.hid (decide_eq_false (by omega))
  have Q00 : Hid (beforeB (1 + p0) (1 + q0) (1 + p0) (1 + q0) = false) := Lib.hid (decide_eq_false (by omega))
  clear n1
  have RH := Lib.hid (rect_has c0.out c1.out)
  have CO := Lib.hid (count_one c2.out)
  obtain ⟨R, hR⟩ : ∃ R, lo (1 + p0) (1 + p1) = R := ⟨_, rfl⟩
  obtain ⟨S, hS⟩ : ∃ S, lo (1 + q0) (1 + q1) = S := ⟨_, rfl⟩
  obtain ⟨T, hT⟩ : ∃ T, hi (1 + p0) (1 + p1) = T := ⟨_, rfl⟩
  obtain ⟨U, hU⟩ : ∃ U, hi (1 + q0) (1 + q1) = U := ⟨_, rfl⟩
  rw [hR, hS, hT, hU] at RH
  obtain ⟨v, hv⟩ : ∃ v, hasB R S T U (1 + p2) (1 + q2) = v := ⟨_, rfl⟩
  have M1 := fun w => madeAs c0.out c1.out hR hS hT hU w
  have M2 := fun w => madeAs c1.out c0.out ((lo_comm _ _).trans hR) ((lo_comm _ _).trans hS) ((hi_comm _ _).trans hT) ((hi_comm _ _).trans hU) w
  have M3 := fun w => madeAs c2.out c2.out (lo_self _) (lo_self _) (hi_self _) (hi_self _) w
  have hm1 := Lib.hid M1; have hm2 := Lib.hid M2; have hm3 := Lib.hid M3; have HV := Lib.hid hv
  clear e0 e1 e2 f0 f1 f2 M1 M2 M3 hR hS hT hU hv
  unfold I64 at hk0 hk1 hk2
  have u0 : IntKind.i64.wrap (k0.tdiv 1000) = k0.tdiv 1000 := by have := j0.out; unfold I64 at this; rw [IntKind.wrap_i64]; omega
  have v0 : IntKind.i64.wrap (1 + p0) = 1 + p0 := by rw [IntKind.wrap_i64]; omega
  have x0 : IntKind.i64.wrap (1 + q0) = 1 + q0 := by rw [IntKind.wrap_i64]; omega
  have u1 : IntKind.i64.wrap (k1.tdiv 1000) = k1.tdiv 1000 := by have := j1.out; unfold I64 at this; rw [IntKind.wrap_i64]; omega
  have v1 : IntKind.i64.wrap (1 + p1) = 1 + p1 := by rw [IntKind.wrap_i64]; omega
  have x1 : IntKind.i64.wrap (1 + q1) = 1 + q1 := by rw [IntKind.wrap_i64]; omega
  have u2 : IntKind.i64.wrap (k2.tdiv 1000) = k2.tdiv 1000 := by have := j2.out; unfold I64 at this; rw [IntKind.wrap_i64]; omega
  have v2 : IntKind.i64.wrap (1 + p2) = 1 + p2 := by rw [IntKind.wrap_i64]; omega
  have x2 : IntKind.i64.wrap (1 + q2) = 1 + q2 := by rw [IntKind.wrap_i64]; omega
  have K0 : ((w.alloc (.cells #[.int .i64 k0, .int .i64 k1, .int .i64 k2] 51)).alloc (.cells #[.int .i64 0, .int .i64 0, .int .i64 0, .int .i64 0, .int .i64 0, .int .i64 0] 52)).drew.cell? ⟨w.heap.size, 0, none⟩ = some (.int .i64 k0) := by simp [go_sem]
  have K1 : ((w.alloc (.cells #[.int .i64 k0, .int .i64 k1, .int .i64 k2] 51)).alloc (.cells #[.int .i64 0, .int .i64 0, .int .i64 0, .int .i64 0, .int .i64 0, .int .i64 0] 52)).drew.cell? ⟨w.heap.size, 1, none⟩ = some (.int .i64 k1) := by simp [go_sem]
  have K2 : ((w.alloc (.cells #[.int .i64 k0, .int .i64 k1, .int .i64 k2] 51)).alloc (.cells #[.int .i64 0, .int .i64 0, .int .i64 0, .int .i64 0, .int .i64 0, .int .i64 0] 52)).drew.cell? ⟨w.heap.size, 2, none⟩ = some (.int .i64 k2) := by simp [go_sem]
  have A0 : ((w.alloc (.cells #[.int .i64 k0, .int .i64 k1, .int .i64 k2] 51)).alloc (.cells #[.int .i64 0, .int .i64 0, .int .i64 0, .int .i64 0, .int .i64 0, .int .i64 0] 52)).drew.cell? ⟨w.heap.size + 1, 0, none⟩ = some (.int .i64 0) := by simp [go_sem]
  have A1 : ((w.alloc (.cells #[.int .i64 k0, .int .i64 k1, .int .i64 k2] 51)).alloc (.cells #[.int .i64 0, .int .i64 0, .int .i64 0, .int .i64 0, .int .i64 0, .int .i64 0] 52)).drew.cell? ⟨w.heap.size + 1, 1, none⟩ = some (.int .i64 0) := by simp [go_sem]
  have A2 : ((w.alloc (.cells #[.int .i64 k0, .int .i64 k1, .int .i64 k2] 51)).alloc (.cells #[.int .i64 0, .int .i64 0, .int .i64 0, .int .i64 0, .int .i64 0, .int .i64 0] 52)).drew.cell? ⟨w.heap.size + 1, 2, none⟩ = some (.int .i64 0) := by simp [go_sem]
  have A3 : ((w.alloc (.cells #[.int .i64 k0, .int .i64 k1, .int .i64 k2] 51)).alloc (.cells #[.int .i64 0, .int .i64 0, .int .i64 0, .int .i64 0, .int .i64 0, .int .i64 0] 52)).drew.cell? ⟨w.heap.size + 1, 3, none⟩ = some (.int .i64 0) := by simp [go_sem]
  have A4 : ((w.alloc (.cells #[.int .i64 k0, .int .i64 k1, .int .i64 k2] 51)).alloc (.cells #[.int .i64 0, .int .i64 0, .int .i64 0, .int .i64 0, .int .i64 0, .int .i64 0] 52)).drew.cell? ⟨w.heap.size + 1, 4, none⟩ = some (.int .i64 0) := by simp [go_sem]
  have A5 : ((w.alloc (.cells #[.int .i64 k0, .int .i64 k1, .int .i64 k2] 51)).alloc (.cells #[.int .i64 0, .int .i64 0, .int .i64 0, .int .i64 0, .int .i64 0, .int .i64 0] 52)).drew.cell? ⟨w.heap.size + 1, 5, none⟩ = some (.int .i64 0) := by simp [go_sem]
  have Z0 : ((w.alloc (.cells #[.int .i64 k0, .int .i64 k1, .int .i64 k2] 51)).alloc (.cells #[.int .i64 0, .int .i64 0, .int .i64 0, .int .i64 0, .int .i64 0, .int .i64 0] 52)).drew.frozen? ⟨w.heap.size + 1, 0, none⟩ = false := by simp [go_sem]
  have Z1 : ((w.alloc (.cells #[.int .i64 k0, .int .i64 k1, .int .i64 k2] 51)).alloc (.cells #[.int .i64 0, .int .i64 0, .int .i64 0, .int .i64 0, .int .i64 0, .int .i64 0] 52)).drew.frozen? ⟨w.heap.size + 1, 1, none⟩ = false := by simp [go_sem]
  have Z2 : ((w.alloc (.cells #[.int .i64 k0, .int .i64 k1, .int .i64 k2] 51)).alloc (.cells #[.int .i64 0, .int .i64 0, .int .i64 0, .int .i64 0, .int .i64 0, .int .i64 0] 52)).drew.frozen? ⟨w.heap.size + 1, 2, none⟩ = false := by simp [go_sem]
  have Z3 : ((w.alloc (.cells #[.int .i64 k0, .int .i64 k1, .int .i64 k2] 51)).alloc (.cells #[.int .i64 0, .int .i64 0, .int .i64 0, .int .i64 0, .int .i64 0, .int .i64 0] 52)).drew.frozen? ⟨w.heap.size + 1, 3, none⟩ = false := by simp [go_sem]
  have Z4 : ((w.alloc (.cells #[.int .i64 k0, .int .i64 k1, .int .i64 k2] 51)).alloc (.cells #[.int .i64 0, .int .i64 0, .int .i64 0, .int .i64 0, .int .i64 0, .int .i64 0] 52)).drew.frozen? ⟨w.heap.size + 1, 4, none⟩ = false := by simp [go_sem]
  have Z5 : ((w.alloc (.cells #[.int .i64 k0, .int .i64 k1, .int .i64 k2] 51)).alloc (.cells #[.int .i64 0, .int .i64 0, .int .i64 0, .int .i64 0, .int .i64 0, .int .i64 0] 52)).drew.frozen? ⟨w.heap.size + 1, 5, none⟩ = false := by simp [go_sem]
  have B : Below w.heap.size w ((w.alloc (.cells #[.int .i64 k0, .int .i64 k1, .int .i64 k2] 51)).alloc (.cells #[.int .i64 0, .int .i64 0, .int .i64 0, .int .i64 0, .int .i64 0, .int .i64 0] 52)).drew := below_drewN' (grown.trans (grown.mono grown.size)) 1
  go_enter Tryd.func7, Tryd.ntmps7
  go_wp2_with fail
  refine wp_loop_rounds 4 ?_
  rw [rounds_succ]
  go_wp2_with fail
  refine region_tail 14 (by kernel_rfl) (by kernel_rfl) ?_
  simp only [List.take_succ_cons, List.take_zero, List.drop_succ_cons, List.drop_zero]
  generalize hW : World.drew _ = W0 at *
  clear hW
  iterate 4 still_step
  still_call (keepModAs _ i0.out (by omega) (by omega) E0.out)
  iterate 5 still_step
  still_call (keepModAs _ j0.out (by omega) (by omega) F0.out)
  iterate 3 still_step
  refine wpStill_nil ?_
  go_wp2_with fail
  have K0' : ((W0.setCell ⟨w.heap.size + 1, 0, none⟩ (.int .i64 (1 + p0))).setCell ⟨w.heap.size + 1, 1, none⟩ (.int .i64 (1 + q0))).drew.cell? ⟨w.heap.size, 0, none⟩ = some (.int .i64 k0) := by simp [go_sem, K0]
  have K1' : ((W0.setCell ⟨w.heap.size + 1, 0, none⟩ (.int .i64 (1 + p0))).setCell ⟨w.heap.size + 1, 1, none⟩ (.int .i64 (1 + q0))).drew.cell? ⟨w.heap.size, 1, none⟩ = some (.int .i64 k1) := by simp [go_sem, K1]
  have K2' : ((W0.setCell ⟨w.heap.size + 1, 0, none⟩ (.int .i64 (1 + p0))).setCell ⟨w.heap.size + 1, 1, none⟩ (.int .i64 (1 + q0))).drew.cell? ⟨w.heap.size, 2, none⟩ = some (.int .i64 k2) := by simp [go_sem, K2]
  have Z0' : ((W0.setCell ⟨w.heap.size + 1, 0, none⟩ (.int .i64 (1 + p0))).setCell ⟨w.heap.size + 1, 1, none⟩ (.int .i64 (1 + q0))).drew.frozen? ⟨w.heap.size + 1, 0, none⟩ = false := by simp [go_sem, Z0]
  have Z1' : ((W0.setCell ⟨w.heap.size + 1, 0, none⟩ (.int .i64 (1 + p0))).setCell ⟨w.heap.size + 1, 1, none⟩ (.int .i64 (1 + q0))).drew.frozen? ⟨w.heap.size + 1, 1, none⟩ = false := by simp [go_sem, Z1]
  have Z2' : ((W0.setCell ⟨w.heap.size + 1, 0, none⟩ (.int .i64 (1 + p0))).setCell ⟨w.heap.size + 1, 1, none⟩ (.int .i64 (1 + q0))).drew.frozen? ⟨w.heap.size + 1, 2, none⟩ = false := by simp [go_sem, Z2]
  have Z3' : ((W0.setCell ⟨w.heap.size + 1, 0, none⟩ (.int .i64 (1 + p0))).setCell ⟨w.heap.size + 1, 1, none⟩ (.int .i64 (1 + q0))).drew.frozen? ⟨w.heap.size + 1, 3, none⟩ = false := by simp [go_sem, Z3]
  have Z4' : ((W0.setCell ⟨w.heap.size + 1, 0, none⟩ (.int .i64 (1 + p0))).setCell ⟨w.heap.size + 1, 1, none⟩ (.int .i64 (1 + q0))).drew.frozen? ⟨w.heap.size + 1, 4, none⟩ = false := by simp [go_sem, Z4]
  have Z5' : ((W0.setCell ⟨w.heap.size + 1, 0, none⟩ (.int .i64 (1 + p0))).setCell ⟨w.heap.size + 1, 1, none⟩ (.int .i64 (1 + q0))).drew.frozen? ⟨w.heap.size + 1, 5, none⟩ = false := by simp [go_sem, Z5]
  have A0' : ((W0.setCell ⟨w.heap.size + 1, 0, none⟩ (.int .i64 (1 + p0))).setCell ⟨w.heap.size + 1, 1, none⟩ (.int .i64 (1 + q0))).drew.cell? ⟨w.heap.size + 1, 0, none⟩ = some (.int .i64 (1 + p0)) := by simp [go_sem, A0]
  have A1' : ((W0.setCell ⟨w.heap.size + 1, 0, none⟩ (.int .i64 (1 + p0))).setCell ⟨w.heap.size + 1, 1, none⟩ (.int .i64 (1 + q0))).drew.cell? ⟨w.heap.size + 1, 1, none⟩ = some (.int .i64 (1 + q0)) := by simp [go_sem, A1]
  have A2' : ((W0.setCell ⟨w.heap.size + 1, 0, none⟩ (.int .i64 (1 + p0))).setCell ⟨w.heap.size + 1, 1, none⟩ (.int .i64 (1 + q0))).drew.cell? ⟨w.heap.size + 1, 2, none⟩ = some (.int .i64 0) := by simp [go_sem, A2]
  have A3' : ((W0.setCell ⟨w.heap.size + 1, 0, none⟩ (.int .i64 (1 + p0))).setCell ⟨w.heap.size + 1, 1, none⟩ (.int .i64 (1 + q0))).drew.cell? ⟨w.heap.size + 1, 3, none⟩ = some (.int .i64 0) := by simp [go_sem, A3]
  have A4' : ((W0.setCell ⟨w.heap.size + 1, 0, none⟩ (.int .i64 (1 + p0))).setCell ⟨w.heap.size + 1, 1, none⟩ (.int .i64 (1 + q0))).drew.cell? ⟨w.heap.size + 1, 4, none⟩ = some (.int .i64 0) := by simp [go_sem, A4]
  have A5' : ((W0.setCell ⟨w.heap.size + 1, 0, none⟩ (.int .i64 (1 + p0))).setCell ⟨w.heap.size + 1, 1, none⟩ (.int .i64 (1 + q0))).drew.cell? ⟨w.heap.size + 1, 5, none⟩ = some (.int .i64 0) := by simp [go_sem, A5]
  have B' : Below w.heap.size w ((W0.setCell ⟨w.heap.size + 1, 0, none⟩ (.int .i64 (1 + p0))).setCell ⟨w.heap.size + 1, 1, none⟩ (.int .i64 (1 + q0))).drew := below_drewN' (((B.setCell (by simp) _).setCell (by simp) _)) 1
  clear K0 K1 K2 Z0 Z1 Z2 Z3 Z4 Z5 A0 A1 A2 A3 A4 A5 B
  have K0 := K0'
  have K1 := K1'
  have K2 := K2'
  have Z0 := Z0'
  have Z1 := Z1'
  have Z2 := Z2'
  have Z3 := Z3'
  have Z4 := Z4'
  have Z5 := Z5'
  have A0 := A0'
  have A1 := A1'
  have A2 := A2'
  have A3 := A3'
  have A4 := A4'
  have A5 := A5'
  have B := B'
  clear K0' K1' K2' Z0' Z1' Z2' Z3' Z4' Z5' A0' A1' A2' A3' A4' A5' B'
  rw [rounds_succ]
  go_wp2_with fail
  refine region_tail 14 (by kernel_rfl) (by kernel_rfl) ?_
  simp only [List.take_succ_cons, List.take_zero, List.drop_succ_cons, List.drop_zero]
  generalize hW : World.drew _ = W1 at *
  clear hW
  iterate 4 still_step
  still_call (keepModAs _ i1.out (by omega) (by omega) E1.out)
  iterate 5 still_step
  still_call (keepModAs _ j1.out (by omega) (by omega) F1.out)
  iterate 3 still_step
  refine wpStill_nil ?_
  go_wp2_with fail
  have K0' : ((W1.setCell ⟨w.heap.size + 1, 2, none⟩ (.int .i64 (1 + p1))).setCell ⟨w.heap.size + 1, 3, none⟩ (.int .i64 (1 + q1))).drew.cell? ⟨w.heap.size, 0, none⟩ = some (.int .i64 k0) := by simp [go_sem, K0]
  have K1' : ((W1.setCell ⟨w.heap.size + 1, 2, none⟩ (.int .i64 (1 + p1))).setCell ⟨w.heap.size + 1, 3, none⟩ (.int .i64 (1 + q1))).drew.cell? ⟨w.heap.size, 1, none⟩ = some (.int .i64 k1) := by simp [go_sem, K1]
  have K2' : ((W1.setCell ⟨w.heap.size + 1, 2, none⟩ (.int .i64 (1 + p1))).setCell ⟨w.heap.size + 1, 3, none⟩ (.int .i64 (1 + q1))).drew.cell? ⟨w.heap.size, 2, none⟩ = some (.int .i64 k2) := by simp [go_sem, K2]
  have Z0' : ((W1.setCell ⟨w.heap.size + 1, 2, none⟩ (.int .i64 (1 + p1))).setCell ⟨w.heap.size + 1, 3, none⟩ (.int .i64 (1 + q1))).drew.frozen? ⟨w.heap.size + 1, 0, none⟩ = false := by simp [go_sem, Z0]
  have Z1' : ((W1.setCell ⟨w.heap.size + 1, 2, none⟩ (.int .i64 (1 + p1))).setCell ⟨w.heap.size + 1, 3, none⟩ (.int .i64 (1 + q1))).drew.frozen? ⟨w.heap.size + 1, 1, none⟩ = false := by simp [go_sem, Z1]
  have Z2' : ((W1.setCell ⟨w.heap.size + 1, 2, none⟩ (.int .i64 (1 + p1))).setCell ⟨w.heap.size + 1, 3, none⟩ (.int .i64 (1 + q1))).drew.frozen? ⟨w.heap.size + 1, 2, none⟩ = false := by simp [go_sem, Z2]
  have Z3' : ((W1.setCell ⟨w.heap.size + 1, 2, none⟩ (.int .i64 (1 + p1))).setCell ⟨w.heap.size + 1, 3, none⟩ (.int .i64 (1 + q1))).drew.frozen? ⟨w.heap.size + 1, 3, none⟩ = false := by simp [go_sem, Z3]
  have Z4' : ((W1.setCell ⟨w.heap.size + 1, 2, none⟩ (.int .i64 (1 + p1))).setCell ⟨w.heap.size + 1, 3, none⟩ (.int .i64 (1 + q1))).drew.frozen? ⟨w.heap.size + 1, 4, none⟩ = false := by simp [go_sem, Z4]
  have Z5' : ((W1.setCell ⟨w.heap.size + 1, 2, none⟩ (.int .i64 (1 + p1))).setCell ⟨w.heap.size + 1, 3, none⟩ (.int .i64 (1 + q1))).drew.frozen? ⟨w.heap.size + 1, 5, none⟩ = false := by simp [go_sem, Z5]
  have A0' : ((W1.setCell ⟨w.heap.size + 1, 2, none⟩ (.int .i64 (1 + p1))).setCell ⟨w.heap.size + 1, 3, none⟩ (.int .i64 (1 + q1))).drew.cell? ⟨w.heap.size + 1, 0, none⟩ = some (.int .i64 (1 + p0)) := by simp [go_sem, A0]
  have A1' : ((W1.setCell ⟨w.heap.size + 1, 2, none⟩ (.int .i64 (1 + p1))).setCell ⟨w.heap.size + 1, 3, none⟩ (.int .i64 (1 + q1))).drew.cell? ⟨w.heap.size + 1, 1, none⟩ = some (.int .i64 (1 + q0)) := by simp [go_sem, A1]
  have A2' : ((W1.setCell ⟨w.heap.size + 1, 2, none⟩ (.int .i64 (1 + p1))).setCell ⟨w.heap.size + 1, 3, none⟩ (.int .i64 (1 + q1))).drew.cell? ⟨w.heap.size + 1, 2, none⟩ = some (.int .i64 (1 + p1)) := by simp [go_sem, A2]
  have A3' : ((W1.setCell ⟨w.heap.size + 1, 2, none⟩ (.int .i64 (1 + p1))).setCell ⟨w.heap.size + 1, 3, none⟩ (.int .i64 (1 + q1))).drew.cell? ⟨w.heap.size + 1, 3, none⟩ = some (.int .i64 (1 + q1)) := by simp [go_sem, A3]
  have A4' : ((W1.setCell ⟨w.heap.size + 1, 2, none⟩ (.int .i64 (1 + p1))).setCell ⟨w.heap.size + 1, 3, none⟩ (.int .i64 (1 + q1))).drew.cell? ⟨w.heap.size + 1, 4, none⟩ = some (.int .i64 0) := by simp [go_sem, A4]
  have A5' : ((W1.setCell ⟨w.heap.size + 1, 2, none⟩ (.int .i64 (1 + p1))).setCell ⟨w.heap.size + 1, 3, none⟩ (.int .i64 (1 + q1))).drew.cell? ⟨w.heap.size + 1, 5, none⟩ = some (.int .i64 0) := by simp [go_sem, A5]
  have B' : Below w.heap.size w ((W1.setCell ⟨w.heap.size + 1, 2, none⟩ (.int .i64 (1 + p1))).setCell ⟨w.heap.size + 1, 3, none⟩ (.int .i64 (1 + q1))).drew := below_drewN' (((B.setCell (by simp) _).setCell (by simp) _)) 1
  clear K0 K1 K2 Z0 Z1 Z2 Z3 Z4 Z5 A0 A1 A2 A3 A4 A5 B
  have K0 := K0'
  have K1 := K1'
  have K2 := K2'
  have Z0 := Z0'
  have Z1 := Z1'
  have Z2 := Z2'
  have Z3 := Z3'
  have Z4 := Z4'
  have Z5 := Z5'
  have A0 := A0'
  have A1 := A1'
  have A2 := A2'
  have A3 := A3'
  have A4 := A4'
  have A5 := A5'
  have B := B'
  clear K0' K1' K2' Z0' Z1' Z2' Z3' Z4' Z5' A0' A1' A2' A3' A4' A5' B'
  rw [rounds_succ]
  go_wp2_with fail
  refine region_tail 14 (by kernel_rfl) (by kernel_rfl) ?_
  simp only [List.take_succ_cons, List.take_zero, List.drop_succ_cons, List.drop_zero]
  generalize hW : World.drew _ = W2 at *
  clear hW
  iterate 4 still_step
  still_call (keepModAs _ i2.out (by omega) (by omega) E2.out)
  iterate 5 still_step
  still_call (keepModAs _ j2.out (by omega) (by omega) F2.out)
  iterate 3 still_step
  refine wpStill_nil ?_
  go_wp2_with fail
  have A0' : ((W2.setCell ⟨w.heap.size + 1, 4, none⟩ (.int .i64 (1 + p2))).setCell ⟨w.heap.size + 1, 5, none⟩ (.int .i64 (1 + q2))).cell? ⟨w.heap.size + 1, 0, none⟩ = some (.int .i64 (1 + p0)) := by simp [go_sem, A0]
  have A1' : ((W2.setCell ⟨w.heap.size + 1, 4, none⟩ (.int .i64 (1 + p2))).setCell ⟨w.heap.size + 1, 5, none⟩ (.int .i64 (1 + q2))).cell? ⟨w.heap.size + 1, 1, none⟩ = some (.int .i64 (1 + q0)) := by simp [go_sem, A1]
  have A2' : ((W2.setCell ⟨w.heap.size + 1, 4, none⟩ (.int .i64 (1 + p2))).setCell ⟨w.heap.size + 1, 5, none⟩ (.int .i64 (1 + q2))).cell? ⟨w.heap.size + 1, 2, none⟩ = some (.int .i64 (1 + p1)) := by simp [go_sem, A2]
  have A3' : ((W2.setCell ⟨w.heap.size + 1, 4, none⟩ (.int .i64 (1 + p2))).setCell ⟨w.heap.size + 1, 5, none⟩ (.int .i64 (1 + q2))).cell? ⟨w.heap.size + 1, 3, none⟩ = some (.int .i64 (1 + q1)) := by simp [go_sem, A3]
  have A4' : ((W2.setCell ⟨w.heap.size + 1, 4, none⟩ (.int .i64 (1 + p2))).setCell ⟨w.heap.size + 1, 5, none⟩ (.int .i64 (1 + q2))).cell? ⟨w.heap.size + 1, 4, none⟩ = some (.int .i64 (1 + p2)) := by simp [go_sem, A4]
  have A5' : ((W2.setCell ⟨w.heap.size + 1, 4, none⟩ (.int .i64 (1 + p2))).setCell ⟨w.heap.size + 1, 5, none⟩ (.int .i64 (1 + q2))).cell? ⟨w.heap.size + 1, 5, none⟩ = some (.int .i64 (1 + q2)) := by simp [go_sem, A5]
  have B' : Below w.heap.size w ((W2.setCell ⟨w.heap.size + 1, 4, none⟩ (.int .i64 (1 + p2))).setCell ⟨w.heap.size + 1, 5, none⟩ (.int .i64 (1 + q2))) := ((B.setCell (by simp) _).setCell (by simp) _)
  clear K0 K1 K2 Z0 Z1 Z2 Z3 Z4 Z5 A0 A1 A2 A3 A4 A5 B
  have A0 := A0'
  have A1 := A1'
  have A2 := A2'
  have A3 := A3'
  have A4 := A4'
  have A5 := A5'
  have B := B'
  clear A0' A1' A2' A3' A4' A5' B'
  generalize hW : (W2.setCell ⟨w.heap.size + 1, 4, none⟩ (.int .i64 (1 + p2))).setCell ⟨w.heap.size + 1, 5, none⟩ (.int .i64 (1 + q2)) = W3 at *
  clear hW
  rw [rounds_succ]
  go_wp2_with fail
  refine (beforeAs Q01.out _).mono ?_; rintro e y1 ⟨rfl, hb1⟩
  replace A0 := cell_later hb1 A0
  replace A1 := cell_later hb1 A1
  replace A2 := cell_later hb1 A2
  replace A3 := cell_later hb1 A3
  replace A4 := cell_later hb1 A4
  replace A5 := cell_later hb1 A5
  replace B := B.trans (hb1.mono B.size)
  go_wp2_with fail
  refine (beforeAs Q00.out _).mono ?_; rintro e y2 ⟨rfl, hb2⟩
  replace A0 := cell_later hb2 A0
  replace A1 := cell_later hb2 A1
  replace A2 := cell_later hb2 A2
  replace A3 := cell_later hb2 A3
  replace A4 := cell_later hb2 A4
  replace A5 := cell_later hb2 A5
  replace B := B.trans (hb2.mono B.size)
  go_wp2_with fail
  refine (beforeAs Q01.out _).mono ?_; rintro e y3 ⟨rfl, hb3⟩
  replace A0 := cell_later hb3 A0
  replace A1 := cell_later hb3 A1
  replace A2 := cell_later hb3 A2
  replace A3 := cell_later hb3 A3
  replace A4 := cell_later hb3 A4
  replace A5 := cell_later hb3 A5
  replace B := B.trans (hb3.mono B.size)
  go_wp2_with fail
  refine (hm1.out _).mono ?_; rintro e y4 ⟨rfl, hb4⟩
  replace A0 := cell_later hb4 A0
  replace A1 := cell_later hb4 A1
  replace A2 := cell_later hb4 A2
  replace A3 := cell_later hb4 A3
  replace A4 := cell_later hb4 A4
  replace A5 := cell_later hb4 A5
  replace B := B.trans (hb4.mono B.size)
  have g4 : Below y4.heap.size y4 (y4.alloc (.cells #[.int .i64 R, .int .i64 S, .int .i64 T, .int .i64 U] 35)) := grown
  replace A0 := cell_later g4 A0
  replace A1 := cell_later g4 A1
  replace A2 := cell_later g4 A2
  replace A3 := cell_later g4 A3
  replace A4 := cell_later g4 A4
  replace A5 := cell_later g4 A5
  replace B := B.trans (g4.mono B.size)
  have r0 : (y4.alloc (.cells #[.int .i64 R, .int .i64 S, .int .i64 T, .int .i64 U] 35)).cell? ⟨y4.heap.size, 0, none⟩ = some (.int .i64 R) := by simp [go_sem]
  have r1 : (y4.alloc (.cells #[.int .i64 R, .int .i64 S, .int .i64 T, .int .i64 U] 35)).cell? ⟨y4.heap.size, 1, none⟩ = some (.int .i64 S) := by simp [go_sem]
  have r2 : (y4.alloc (.cells #[.int .i64 R, .int .i64 S, .int .i64 T, .int .i64 U] 35)).cell? ⟨y4.heap.size, 2, none⟩ = some (.int .i64 T) := by simp [go_sem]
  have r3 : (y4.alloc (.cells #[.int .i64 R, .int .i64 S, .int .i64 T, .int .i64 U] 35)).cell? ⟨y4.heap.size, 3, none⟩ = some (.int .i64 U) := by simp [go_sem]
  go_wp2_with fail
  refine (hm2.out _).mono ?_; rintro e y5 ⟨rfl, hb5⟩
  replace A0 := cell_later hb5 A0
  replace A1 := cell_later hb5 A1
  replace A2 := cell_later hb5 A2
  replace A3 := cell_later hb5 A3
  replace A4 := cell_later hb5 A4
  replace A5 := cell_later hb5 A5
  replace r0 := cell_later hb5 r0
  replace r1 := cell_later hb5 r1
  replace r2 := cell_later hb5 r2
  replace r3 := cell_later hb5 r3
  replace B := B.trans (hb5.mono B.size)
  have g5 : Below y5.heap.size y5 (y5.alloc (.cells #[.int .i64 R, .int .i64 S, .int .i64 T, .int .i64 U] 35)) := grown
  replace A0 := cell_later g5 A0
  replace A1 := cell_later g5 A1
  replace A2 := cell_later g5 A2
  replace A3 := cell_later g5 A3
  replace A4 := cell_later g5 A4
  replace A5 := cell_later g5 A5
  replace r0 := cell_later g5 r0
  replace r1 := cell_later g5 r1
  replace r2 := cell_later g5 r2
  replace r3 := cell_later g5 r3
  replace B := B.trans (g5.mono B.size)
  have s0 : (y5.alloc (.cells #[.int .i64 R, .int .i64 S, .int .i64 T, .int .i64 U] 35)).cell? ⟨y5.heap.size, 0, none⟩ = some (.int .i64 R) := by simp [go_sem]
  have s1 : (y5.alloc (.cells #[.int .i64 R, .int .i64 S, .int .i64 T, .int .i64 U] 35)).cell? ⟨y5.heap.size, 1, none⟩ = some (.int .i64 S) := by simp [go_sem]
  have s2 : (y5.alloc (.cells #[.int .i64 R, .int .i64 S, .int .i64 T, .int .i64 U] 35)).cell? ⟨y5.heap.size, 2, none⟩ = some (.int .i64 T) := by simp [go_sem]
  have s3 : (y5.alloc (.cells #[.int .i64 R, .int .i64 S, .int .i64 T, .int .i64 U] 35)).cell? ⟨y5.heap.size, 3, none⟩ = some (.int .i64 U) := by simp [go_sem]
  go_wp2_with fail
  refine (hm3.out _).mono ?_; rintro e y6 ⟨rfl, hb6⟩
  replace A0 := cell_later hb6 A0
  replace A1 := cell_later hb6 A1
  replace A2 := cell_later hb6 A2
  replace A3 := cell_later hb6 A3
  replace A4 := cell_later hb6 A4
  replace A5 := cell_later hb6 A5
  replace r0 := cell_later hb6 r0
  replace r1 := cell_later hb6 r1
  replace r2 := cell_later hb6 r2
  replace r3 := cell_later hb6 r3
  replace s0 := cell_later hb6 s0
  replace s1 := cell_later hb6 s1
  replace s2 := cell_later hb6 s2
  replace s3 := cell_later hb6 s3
  replace B := B.trans (hb6.mono B.size)
  have g6 : Below y6.heap.size y6 (y6.alloc (.cells #[.int .i64 (1 + p2), .int .i64 (1 + q2), .int .i64 (1 + p2), .int .i64 (1 + q2)] 35)) := grown
  replace A0 := cell_later g6 A0
  replace A1 := cell_later g6 A1
  replace A2 := cell_later g6 A2
  replace A3 := cell_later g6 A3
  replace A4 := cell_later g6 A4
  replace A5 := cell_later g6 A5
  replace r0 := cell_later g6 r0
  replace r1 := cell_later g6 r1
  replace r2 := cell_later g6 r2
  replace r3 := cell_later g6 r3
  replace s0 := cell_later g6 s0
  replace s1 := cell_later g6 s1
  replace s2 := cell_later g6 s2
  replace s3 := cell_later g6 s3
  replace B := B.trans (g6.mono B.size)
  have t0 : (y6.alloc (.cells #[.int .i64 (1 + p2), .int .i64 (1 + q2), .int .i64 (1 + p2), .int .i64 (1 + q2)] 35)).cell? ⟨y6.heap.size, 0, none⟩ = some (.int .i64 (1 + p2)) := by simp [go_sem]
  have t1 : (y6.alloc (.cells #[.int .i64 (1 + p2), .int .i64 (1 + q2), .int .i64 (1 + p2), .int .i64 (1 + q2)] 35)).cell? ⟨y6.heap.size, 1, none⟩ = some (.int .i64 (1 + q2)) := by simp [go_sem]
  have t2 : (y6.alloc (.cells #[.int .i64 (1 + p2), .int .i64 (1 + q2), .int .i64 (1 + p2), .int .i64 (1 + q2)] 35)).cell? ⟨y6.heap.size, 2, none⟩ = some (.int .i64 (1 + p2)) := by simp [go_sem]
  have t3 : (y6.alloc (.cells #[.int .i64 (1 + p2), .int .i64 (1 + q2), .int .i64 (1 + p2), .int .i64 (1 + q2)] 35)).cell? ⟨y6.heap.size, 3, none⟩ = some (.int .i64 (1 + q2)) := by simp [go_sem]
  replace A0 := Gr.cell _ _ _ (Below.refl _ _) A0
  replace A1 := Gr.cell _ _ _ (Below.refl _ _) A1
  replace A2 := Gr.cell _ _ _ (Below.refl _ _) A2
  replace A3 := Gr.cell _ _ _ (Below.refl _ _) A3
  replace A4 := Gr.cell _ _ _ (Below.refl _ _) A4
  replace A5 := Gr.cell _ _ _ (Below.refl _ _) A5
  replace r0 := Gr.cell _ _ _ (Below.refl _ _) r0
  replace r1 := Gr.cell _ _ _ (Below.refl _ _) r1
  replace r2 := Gr.cell _ _ _ (Below.refl _ _) r2
  replace r3 := Gr.cell _ _ _ (Below.refl _ _) r3
  replace s0 := Gr.cell _ _ _ (Below.refl _ _) s0
  replace s1 := Gr.cell _ _ _ (Below.refl _ _) s1
  replace s2 := Gr.cell _ _ _ (Below.refl _ _) s2
  replace s3 := Gr.cell _ _ _ (Below.refl _ _) s3
  replace t0 := Gr.cell _ _ _ (Below.refl _ _) t0
  replace t1 := Gr.cell _ _ _ (Below.refl _ _) t1
  replace t2 := Gr.cell _ _ _ (Below.refl _ _) t2
  replace t3 := Gr.cell _ _ _ (Below.refl _ _) t3
  go_wp2_with fail
  generalize hW : y6.alloc (.cells #[.int .i64 (1 + p2), .int .i64 (1 + q2), .int .i64 (1 + p2), .int .i64 (1 + q2)] 35) = W at *
  clear hW
  have LG : ∀ u : Gr W, LibIs u.now := fun u => hL.below (B.trans (u.below.mono B.size))
  refine region_grown (by kernel_rfl) (by kernel_rfl) ?_
  repeat (go_big_quiet_step (first
    | (go_at_call 19; exact grown_of (fineAs RH.out.1 _))
    | (go_at_call 21; first | with_reducible exact grown_of (hasAs RH.out.2.1 _) | with_reducible exact grown_of (hasAs RH.out.2.2 _) | with_reducible exact grown_of (hasAs HV.out _))
    | (go_at_call 23; exact grown_of (meetAs HV.out _))
    | (go_at_call 25; exact grown_of (countAs CO.out _))
    | (go_at_call 8; exact grown_of (awakes _ (LG _)))))
  refine wpQuiet_nil ?_
  intro w3 hw3; obtain ⟨u, rfl⟩ := hw3
  go_wp2_with fail
  go_ret
  exact ⟨ret1 rfl, B.trans (u.below.mono B.size)⟩

theorem addrOrder (k0 k1 k2 : Int) (w : World) (h0 : I64 k0) (h1 : I64 k1) (h2 : I64 k2) (hL : LibIs w) :
    Calls Tryd.prog 7 #[.agg #[.int .i64 k0, .int .i64 k1, .int .i64 k2]] w fun e w' => e = .returned (.bool true) ∧ Below w.heap.size w w' := by
  have b0 := modK_bd k0 (m := 1000) (by omega)
  have d0 := modK_bd (k0.tdiv 1000) (m := 50) (by omega)
  have b1 := modK_bd k1 (m := 1000) (by omega)
  have d1 := modK_bd (k1.tdiv 1000) (m := 50) (by omega)
  have b2 := modK_bd k2 (m := 1000) (by omega)
  have d2 := modK_bd (k2.tdiv 1000) (m := 50) (by omega)
  by_cases n1 : (modK k0 1000 < modK k1 1000 ∨ modK k0 1000 = modK k1 1000 ∧ modK (k0.tdiv 1000) 50 < modK (k1.tdiv 1000) 50)
  · by_cases n2 : (modK k1 1000 < modK k2 1000 ∨ modK k1 1000 = modK k2 1000 ∧ modK (k1.tdiv 1000) 50 < modK (k2.tdiv 1000) 50)
    · exact addrOrder_1 k0 k1 k2 _ _ _ _ _ _ w h0 h1 h2 hL b0 d0 b1 d1 b2 d2 rfl rfl rfl rfl rfl rfl n1 n2
    · exact addrOrder_2 k0 k1 k2 _ _ _ _ _ _ w h0 h1 h2 hL b0 d0 b1 d1 b2 d2 rfl rfl rfl rfl rfl rfl n1 n2
  · exact addrOrder_3 k0 k1 k2 _ _ _ _ _ _ w h0 h1 h2 hL b0 d0 b1 d1 b2 d2 rfl rfl rfl rfl rfl rfl n1
end Go.Proofs.YtogahgbfdmfmcaaDoor.AddrC
