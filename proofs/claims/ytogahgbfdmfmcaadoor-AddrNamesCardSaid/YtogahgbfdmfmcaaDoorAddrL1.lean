/-
  The walk of the statement AddrNames: for all arguments it answers true.
-/
import Derived.Test.YtogahgbfdmfmcaaDoorAddrW
import Derived.Test.YtogahgbfdmfmcaaDoorAddrG
namespace Go.Proofs.YtogahgbfdmfmcaaDoor.AddrC
set_option linter.unusedVariables false
open Go.RowKit Go.Proofs.YtogahgbfdmfmcaaDoor.NumC

set_option maxRecDepth 100000 in
set_option maxHeartbeats 4000000 in
theorem addrNames (r c r' c' : Int) (s : ByteArray) (w : World) (hs : s.size ≤ 9223372036854775807) (hl : LibIs w) :
    Calls Tryd.prog 3 #[.agg #[.int .i64 r, .int .i64 c], .agg #[.int .i64 r', .int .i64 c'], .string s] w fun e w' => e = .returned (.bool true) ∧ Below w.heap.size w w' := by
  have B0 : Below w.heap.size w ((w.alloc (.cells #[.int .i64 r, .int .i64 c] 23)).alloc (.cells #[.int .i64 r', .int .i64 c'] 23)) := grown.trans (grown.mono grown.size)
  have hl0 := hl.below B0
  by_cases h : 1000 < s.size
  · go_enter Tryd.func3, Tryd.ntmps3
    go_wp2_with fail
    refine (awakes _ hl0).mono ?_; rintro e w6 ⟨rfl, hb6⟩
    go_wp2
    go_ret
    exact ⟨ret1 rfl, B0.trans (hb6.mono B0.size)⟩
  · have h' : s.size ≤ 1000 := by omega
    have a0 : ((w.alloc (.cells #[.int .i64 r, .int .i64 c] 23)).alloc (.cells #[.int .i64 r', .int .i64 c'] 23)).cell? ⟨w.heap.size, 0, none⟩ = some (.int .i64 r) := by simp [go_sem]
    have a1 : ((w.alloc (.cells #[.int .i64 r, .int .i64 c] 23)).alloc (.cells #[.int .i64 r', .int .i64 c'] 23)).cell? ⟨w.heap.size, 1, none⟩ = some (.int .i64 c) := by simp [go_sem]
    have b0 : ((w.alloc (.cells #[.int .i64 r, .int .i64 c] 23)).alloc (.cells #[.int .i64 r', .int .i64 c'] 23)).cell? ⟨w.heap.size + 1, 0, none⟩ = some (.int .i64 r') := by simp [go_sem]
    have b1 : ((w.alloc (.cells #[.int .i64 r, .int .i64 c] 23)).alloc (.cells #[.int .i64 r', .int .i64 c'] 23)).cell? ⟨w.heap.size + 1, 1, none⟩ = some (.int .i64 c') := by simp [go_sem]
    clear h
    go_enter Tryd.func3, Tryd.ntmps3
    go_wp2_with fail
    refine (aparse s _ hs hl0).mono ?_; rintro e w1 ⟨rfl, hb1⟩
    have g1 : Below w1.heap.size w1 (w1.alloc (.cells #[.int .i64 (pR s.data.toList), .int .i64 (pC s.data.toList)] 23)) := grown
    have x0 : (w1.alloc (.cells #[.int .i64 (pR s.data.toList), .int .i64 (pC s.data.toList)] 23)).cell? ⟨w1.heap.size, 0, none⟩ = some (.int .i64 (pR s.data.toList)) := by simp [go_sem]
    have x1 : (w1.alloc (.cells #[.int .i64 (pR s.data.toList), .int .i64 (pC s.data.toList)] 23)).cell? ⟨w1.heap.size, 1, none⟩ = some (.int .i64 (pC s.data.toList)) := by simp [go_sem]
    have B1 := (B0.trans (hb1.mono B0.size)).trans (g1.mono (B0.trans (hb1.mono B0.size)).size)
    replace a0 := cell_later g1 (cell_later hb1 a0); replace a1 := cell_later g1 (cell_later hb1 a1)
    replace b0 := cell_later g1 (cell_later hb1 b0); replace b1 := cell_later g1 (cell_later hb1 b1)
    go_wp2_with fail
    refine (raparse s _ hs).mono ?_; rintro e w2 ⟨rfl, hb2⟩
    have g2 : Below w2.heap.size w2 (w2.alloc (.cells #[.int .i64 (pR s.data.toList), .int .i64 (pC s.data.toList), .bool (pOK s.data.toList)] 28)) := grown
    have y0 : (w2.alloc (.cells #[.int .i64 (pR s.data.toList), .int .i64 (pC s.data.toList), .bool (pOK s.data.toList)] 28)).cell? ⟨w2.heap.size, 0, none⟩ = some (.int .i64 (pR s.data.toList)) := by simp [go_sem]
    have y1 : (w2.alloc (.cells #[.int .i64 (pR s.data.toList), .int .i64 (pC s.data.toList), .bool (pOK s.data.toList)] 28)).cell? ⟨w2.heap.size, 1, none⟩ = some (.int .i64 (pC s.data.toList)) := by simp [go_sem]
    have y2 : (w2.alloc (.cells #[.int .i64 (pR s.data.toList), .int .i64 (pC s.data.toList), .bool (pOK s.data.toList)] 28)).cell? ⟨w2.heap.size, 2, none⟩ = some (.bool (pOK s.data.toList)) := by simp [go_sem]
    have B2 := (B1.trans (hb2.mono B1.size)).trans (g2.mono (B1.trans (hb2.mono B1.size)).size)
    replace a0 := Gr.cell _ _ _ g2 (cell_later hb2 a0); replace a1 := Gr.cell _ _ _ g2 (cell_later hb2 a1)
    replace b0 := Gr.cell _ _ _ g2 (cell_later hb2 b0); replace b1 := Gr.cell _ _ _ g2 (cell_later hb2 b1)
    replace x0 := Gr.cell _ _ _ g2 (cell_later hb2 x0); replace x1 := Gr.cell _ _ _ g2 (cell_later hb2 x1)
    replace y0 := Gr.cell _ _ _ (Below.refl _ _) y0; replace y1 := Gr.cell _ _ _ (Below.refl _ _) y1; replace y2 := Gr.cell _ _ _ (Below.refl _ _) y2
    go_wp2_with fail
    generalize hW : (w2.alloc (.cells #[.int .i64 (pR s.data.toList), .int .i64 (pC s.data.toList), .bool (pOK s.data.toList)] 28)) = W at *
    have LG : ∀ u : Gr W, LibIs u.now := fun u => hl.below (B2.trans (u.below.mono B2.size))
    refine region_grown (by kernel_rfl) (by kernel_rfl) ?_
    repeat (go_big_quiet_step (first
      | (go_at_call 11; exact grown_of (good _ _ _))
      | (go_at_call 12; exact grown_of (rgood _ _ _))
      | (go_at_call 13; exact grown_of (name _ _ _ (LG _)))
      | (go_at_call 14; exact grown_of (rname _ _ _))
      | (go_at_call 15; exact grown_of (before _ _ _ _ _))
      | (go_at_call 16; exact grown_of (rbefore _ _ _ _ _))
      | (go_at_call 8; exact grown_of (awakes _ (LG _)))))
    refine wpQuiet_nil ?_
    intro w3 hw3; obtain ⟨u, rfl⟩ := hw3
    go_wp2_with fail
    go_ret
    exact ⟨ret1 rfl, B2.trans (u.below.mono B2.size)⟩
end Go.Proofs.YtogahgbfdmfmcaaDoor.AddrC
