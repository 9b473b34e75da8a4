/-
  The walk of the statement AddrRects: for all arguments it answers true.
-/
import Derived.Test.YtogahgbfdmfmcaaDoorAddrW
import Derived.Test.YtogahgbfdmfmcaaDoorNumG
namespace Go.Proofs.YtogahgbfdmfmcaaDoor.AddrC
set_option linter.unusedVariables false
open Go.RowKit Go.Proofs.YtogahgbfdmfmcaaDoor.NumC

set_option maxRecDepth 100000 in
set_option maxHeartbeats 4000000 in
theorem addrRects (r0 r1 r2 r3 s0 s1 s2 s3 a0 a1 : Int) (w : World) (hl : LibIs w) :
    Calls Tryd.prog 4 #[.agg #[.int .i64 r0, .int .i64 r1, .int .i64 r2, .int .i64 r3], .agg #[.int .i64 s0, .int .i64 s1, .int .i64 s2, .int .i64 s3], .agg #[.int .i64 a0, .int .i64 a1]] w fun e w' => e = .returned (.bool true) ∧ Below w.heap.size w w' := by
  have B0 : Below w.heap.size w (((w.alloc (.cells #[.int .i64 r0, .int .i64 r1, .int .i64 r2, .int .i64 r3] 35)).alloc (.cells #[.int .i64 s0, .int .i64 s1, .int .i64 s2, .int .i64 s3] 35)).alloc (.cells #[.int .i64 a0, .int .i64 a1] 23)) := grown.trans ((grown.trans (grown.mono grown.size)).mono grown.size)
  have hr0 : (((w.alloc (.cells #[.int .i64 r0, .int .i64 r1, .int .i64 r2, .int .i64 r3] 35)).alloc (.cells #[.int .i64 s0, .int .i64 s1, .int .i64 s2, .int .i64 s3] 35)).alloc (.cells #[.int .i64 a0, .int .i64 a1] 23)).cell? ⟨w.heap.size, 0, none⟩ = some (.int .i64 r0) := by simp [go_sem]
  have hr1 : (((w.alloc (.cells #[.int .i64 r0, .int .i64 r1, .int .i64 r2, .int .i64 r3] 35)).alloc (.cells #[.int .i64 s0, .int .i64 s1, .int .i64 s2, .int .i64 s3] 35)).alloc (.cells #[.int .i64 a0, .int .i64 a1] 23)).cell? ⟨w.heap.size, 1, none⟩ = some (.int .i64 r1) := by simp [go_sem]
  have hr2 : (((w.alloc (.cells #[.int .i64 r0, .int .i64 r1, .int .i64 r2, .int .i64 r3] 35)).alloc (.cells #[.int .i64 s0, .int .i64 s1, .int .i64 s2, .int .i64 s3] 35)).alloc (.cells #[.int .i64 a0, .int .i64 a1] 23)).cell? ⟨w.heap.size, 2, none⟩ = some (.int .i64 r2) := by simp [go_sem]
  have hr3 : (((w.alloc (.cells #[.int .i64 r0, .int .i64 r1, .int .i64 r2, .int .i64 r3] 35)).alloc (.cells #[.int .i64 s0, .int .i64 s1, .int .i64 s2, .int .i64 s3] 35)).alloc (.cells #[.int .i64 a0, .int .i64 a1] 23)).cell? ⟨w.heap.size, 3, none⟩ = some (.int .i64 r3) := by simp [go_sem]
  have hs0 : (((w.alloc (.cells #[.int .i64 r0, .int .i64 r1, .int .i64 r2, .int .i64 r3] 35)).alloc (.cells #[.int .i64 s0, .int .i64 s1, .int .i64 s2, .int .i64 s3] 35)).alloc (.cells #[.int .i64 a0, .int .i64 a1] 23)).cell? ⟨w.heap.size + 1, 0, none⟩ = some (.int .i64 s0) := by simp [go_sem]
  have hs1 : (((w.alloc (.cells #[.int .i64 r0, .int .i64 r1, .int .i64 r2, .int .i64 r3] 35)).alloc (.cells #[.int .i64 s0, .int .i64 s1, .int .i64 s2, .int .i64 s3] 35)).alloc (.cells #[.int .i64 a0, .int .i64 a1] 23)).cell? ⟨w.heap.size + 1, 1, none⟩ = some (.int .i64 s1) := by simp [go_sem]
  have hs2 : (((w.alloc (.cells #[.int .i64 r0, .int .i64 r1, .int .i64 r2, .int .i64 r3] 35)).alloc (.cells #[.int .i64 s0, .int .i64 s1, .int .i64 s2, .int .i64 s3] 35)).alloc (.cells #[.int .i64 a0, .int .i64 a1] 23)).cell? ⟨w.heap.size + 1, 2, none⟩ = some (.int .i64 s2) := by simp [go_sem]
  have hs3 : (((w.alloc (.cells #[.int .i64 r0, .int .i64 r1, .int .i64 r2, .int .i64 r3] 35)).alloc (.cells #[.int .i64 s0, .int .i64 s1, .int .i64 s2, .int .i64 s3] 35)).alloc (.cells #[.int .i64 a0, .int .i64 a1] 23)).cell? ⟨w.heap.size + 1, 3, none⟩ = some (.int .i64 s3) := by simp [go_sem]
  have ha0 : (((w.alloc (.cells #[.int .i64 r0, .int .i64 r1, .int .i64 r2, .int .i64 r3] 35)).alloc (.cells #[.int .i64 s0, .int .i64 s1, .int .i64 s2, .int .i64 s3] 35)).alloc (.cells #[.int .i64 a0, .int .i64 a1] 23)).cell? ⟨w.heap.size + 1 + 1, 0, none⟩ = some (.int .i64 a0) := by simp [go_sem]
  have ha1 : (((w.alloc (.cells #[.int .i64 r0, .int .i64 r1, .int .i64 r2, .int .i64 r3] 35)).alloc (.cells #[.int .i64 s0, .int .i64 s1, .int .i64 s2, .int .i64 s3] 35)).alloc (.cells #[.int .i64 a0, .int .i64 a1] 23)).cell? ⟨w.heap.size + 1 + 1, 1, none⟩ = some (.int .i64 a1) := by simp [go_sem]
  go_enter Tryd.func4, Tryd.ntmps4
  go_wp2_with fail
  refine (made r0 r1 s2 s3 _).mono ?_; rintro e w1 ⟨rfl, hb1⟩
  have g1 : Below w1.heap.size w1 (w1.alloc (.cells #[.int .i64 (mA r0 r1 s2 s3), .int .i64 (mB r0 r1 s2 s3), .int .i64 (mC r0 r1 s2 s3), .int .i64 (mD r0 r1 s2 s3)] 35)) := grown
  have hx0 : (w1.alloc (.cells #[.int .i64 (mA r0 r1 s2 s3), .int .i64 (mB r0 r1 s2 s3), .int .i64 (mC r0 r1 s2 s3), .int .i64 (mD r0 r1 s2 s3)] 35)).cell? ⟨w1.heap.size, 0, none⟩ = some (.int .i64 (mA r0 r1 s2 s3)) := by simp [go_sem]
  have hx1 : (w1.alloc (.cells #[.int .i64 (mA r0 r1 s2 s3), .int .i64 (mB r0 r1 s2 s3), .int .i64 (mC r0 r1 s2 s3), .int .i64 (mD r0 r1 s2 s3)] 35)).cell? ⟨w1.heap.size, 1, none⟩ = some (.int .i64 (mB r0 r1 s2 s3)) := by simp [go_sem]
  have hx2 : (w1.alloc (.cells #[.int .i64 (mA r0 r1 s2 s3), .int .i64 (mB r0 r1 s2 s3), .int .i64 (mC r0 r1 s2 s3), .int .i64 (mD r0 r1 s2 s3)] 35)).cell? ⟨w1.heap.size, 2, none⟩ = some (.int .i64 (mC r0 r1 s2 s3)) := by simp [go_sem]
  have hx3 : (w1.alloc (.cells #[.int .i64 (mA r0 r1 s2 s3), .int .i64 (mB r0 r1 s2 s3), .int .i64 (mC r0 r1 s2 s3), .int .i64 (mD r0 r1 s2 s3)] 35)).cell? ⟨w1.heap.size, 3, none⟩ = some (.int .i64 (mD r0 r1 s2 s3)) := by simp [go_sem]
  have B1 := (B0.trans (hb1.mono B0.size)).trans (g1.mono (B0.trans (hb1.mono B0.size)).size)
  replace hr0 := cell_later g1 (cell_later hb1 hr0)
  replace hr1 := cell_later g1 (cell_later hb1 hr1)
  replace hr2 := cell_later g1 (cell_later hb1 hr2)
  replace hr3 := cell_later g1 (cell_later hb1 hr3)
  replace hs0 := cell_later g1 (cell_later hb1 hs0)
  replace hs1 := cell_later g1 (cell_later hb1 hs1)
  replace hs2 := cell_later g1 (cell_later hb1 hs2)
  replace hs3 := cell_later g1 (cell_later hb1 hs3)
  replace ha0 := cell_later g1 (cell_later hb1 ha0)
  replace ha1 := cell_later g1 (cell_later hb1 ha1)
  go_wp2_with fail
  refine (rmade r0 r1 s2 s3 _).mono ?_; rintro e w2 ⟨rfl, hb2⟩
  have g2 : Below w2.heap.size w2 (w2.alloc (.cells #[.int .i64 (mA r0 r1 s2 s3), .int .i64 (mB r0 r1 s2 s3), .int .i64 (mC r0 r1 s2 s3), .int .i64 (mD r0 r1 s2 s3), .bool (madeB r0 r1 s2 s3)] 39)) := grown
  have hy0 : (w2.alloc (.cells #[.int .i64 (mA r0 r1 s2 s3), .int .i64 (mB r0 r1 s2 s3), .int .i64 (mC r0 r1 s2 s3), .int .i64 (mD r0 r1 s2 s3), .bool (madeB r0 r1 s2 s3)] 39)).cell? ⟨w2.heap.size, 0, none⟩ = some (.int .i64 (mA r0 r1 s2 s3)) := by simp [go_sem]
  have hy1 : (w2.alloc (.cells #[.int .i64 (mA r0 r1 s2 s3), .int .i64 (mB r0 r1 s2 s3), .int .i64 (mC r0 r1 s2 s3), .int .i64 (mD r0 r1 s2 s3), .bool (madeB r0 r1 s2 s3)] 39)).cell? ⟨w2.heap.size, 1, none⟩ = some (.int .i64 (mB r0 r1 s2 s3)) := by simp [go_sem]
  have hy2 : (w2.alloc (.cells #[.int .i64 (mA r0 r1 s2 s3), .int .i64 (mB r0 r1 s2 s3), .int .i64 (mC r0 r1 s2 s3), .int .i64 (mD r0 r1 s2 s3), .bool (madeB r0 r1 s2 s3)] 39)).cell? ⟨w2.heap.size, 2, none⟩ = some (.int .i64 (mC r0 r1 s2 s3)) := by simp [go_sem]
  have hy3 : (w2.alloc (.cells #[.int .i64 (mA r0 r1 s2 s3), .int .i64 (mB r0 r1 s2 s3), .int .i64 (mC r0 r1 s2 s3), .int .i64 (mD r0 r1 s2 s3), .bool (madeB r0 r1 s2 s3)] 39)).cell? ⟨w2.heap.size, 3, none⟩ = some (.int .i64 (mD r0 r1 s2 s3)) := by simp [go_sem]
  have hy4 : (w2.alloc (.cells #[.int .i64 (mA r0 r1 s2 s3), .int .i64 (mB r0 r1 s2 s3), .int .i64 (mC r0 r1 s2 s3), .int .i64 (mD r0 r1 s2 s3), .bool (madeB r0 r1 s2 s3)] 39)).cell? ⟨w2.heap.size, 4, none⟩ = some (.bool (madeB r0 r1 s2 s3)) := by simp [go_sem]
  have B2 := (B1.trans (hb2.mono B1.size)).trans (g2.mono (B1.trans (hb2.mono B1.size)).size)
  replace hr0 := Gr.cell _ _ _ g2 (cell_later hb2 hr0)
  replace hr1 := Gr.cell _ _ _ g2 (cell_later hb2 hr1)
  replace hr2 := Gr.cell _ _ _ g2 (cell_later hb2 hr2)
  replace hr3 := Gr.cell _ _ _ g2 (cell_later hb2 hr3)
  replace hs0 := Gr.cell _ _ _ g2 (cell_later hb2 hs0)
  replace hs1 := Gr.cell _ _ _ g2 (cell_later hb2 hs1)
  replace hs2 := Gr.cell _ _ _ g2 (cell_later hb2 hs2)
  replace hs3 := Gr.cell _ _ _ g2 (cell_later hb2 hs3)
  replace ha0 := Gr.cell _ _ _ g2 (cell_later hb2 ha0)
  replace ha1 := Gr.cell _ _ _ g2 (cell_later hb2 ha1)
  replace hx0 := Gr.cell _ _ _ g2 (cell_later hb2 hx0)
  replace hx1 := Gr.cell _ _ _ g2 (cell_later hb2 hx1)
  replace hx2 := Gr.cell _ _ _ g2 (cell_later hb2 hx2)
  replace hx3 := Gr.cell _ _ _ g2 (cell_later hb2 hx3)
  replace hy0 := Gr.cell _ _ _ (Below.refl _ _) hy0
  replace hy1 := Gr.cell _ _ _ (Below.refl _ _) hy1
  replace hy2 := Gr.cell _ _ _ (Below.refl _ _) hy2
  replace hy3 := Gr.cell _ _ _ (Below.refl _ _) hy3
  replace hy4 := Gr.cell _ _ _ (Below.refl _ _) hy4
  go_wp2_with fail
  generalize hW : (w2.alloc (.cells #[.int .i64 (mA r0 r1 s2 s3), .int .i64 (mB r0 r1 s2 s3), .int .i64 (mC r0 r1 s2 s3), .int .i64 (mD r0 r1 s2 s3), .bool (madeB r0 r1 s2 s3)] 39)) = W at *
  have LG : ∀ u : Gr W, LibIs u.now := fun u => hl.below (B2.trans (u.below.mono B2.size))
  refine region_grown (by kernel_rfl) (by kernel_rfl) ?_
  repeat (go_big_quiet_step (first
    | (go_at_call 19; exact grown_of (fine _ _ _ _ _))
    | (go_at_call 20; exact grown_of (rfine _ _ _ _ _))
    | (go_at_call 21; exact grown_of (has _ _ _ _ _ _ _))
    | (go_at_call 22; exact grown_of (rhas _ _ _ _ _ _ _))
    | (go_at_call 23; exact grown_of (meet _ _ _ _ _ _ _ _ _))
    | (go_at_call 24; exact grown_of (rmeet _ _ _ _ _ _ _ _ _))
    | (go_at_call 25; exact grown_of (count _ _ _ _ _))
    | (go_at_call 26; exact grown_of (rcount _ _ _ _ _))
    | (go_at_call 8; exact grown_of (awakes _ (LG _)))))
  refine wpQuiet_nil ?_
  intro w3 hw3; obtain ⟨u, rfl⟩ := hw3
  go_wp2_with fail
  go_ret
  exact ⟨ret1 rfl, B2.trans (u.below.mono B2.size)⟩
end Go.Proofs.YtogahgbfdmfmcaaDoor.AddrC
