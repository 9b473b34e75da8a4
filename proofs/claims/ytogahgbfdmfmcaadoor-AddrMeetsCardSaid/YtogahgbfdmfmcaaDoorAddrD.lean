/-
  Contracts of package addr and of its reference: Name. Of the world: the library's table and its two errors read as they are laid.
-/
import Derived.Test.YtogahgbfdmfmcaaDoorAddrC
import Derived.Test.YtogahgbfdmfmcaaDoorNumG
namespace Go.Proofs.YtogahgbfdmfmcaaDoor.AddrC
set_option linter.unusedVariables false
open Go.RowKit Go.Proofs.YtogahgbfdmfmcaaDoor.NumC

theorem two_str (a b : List UInt8) : ((⟨a.toArray⟩ : ByteArray) ++ (⟨b.toArray⟩ : ByteArray)) = ⟨(a ++ b).toArray⟩ := by
  apply WideShapes.bytes_inj
  rw [ByteArray.data_append, Array.toList_append]

set_option maxHeartbeats 1000000 in
theorem name (r c : Int) (w : World) (hl : LibIs w) :
    Calls Tryd.prog 13 #[.agg #[.int .i64 r, .int .i64 c]] w fun e w' => e = .returned (.string ⟨(nameL r c).toArray⟩) ∧ Below w.heap.size w w' := by
  by_cases h : Cell r c
  · have G := Lib.hid (cellB_t h)
    have E := Lib.hid (nameL_cell h)
    have T := Lib.hid (two_str (colL c) (Lib.itoa r))
    have ir := Lib.hid (cell_i64 h)
    have hs : ¬ 9223372036854775807 < (colL c).length + (Lib.itoa r).length := by
      have h1 := (itoa_len (cell_i64 h)).2
      have h2 := colL_len c
      split at h2 <;> omega
    have hc1 : 1 ≤ c := h.2.1
    have hc2 : c ≤ 50 := h.2.2
    clear h
    go_enter Tryd.func13, Tryd.ntmps13
    go_wp2_with fail
    refine (good _ _ _).mono ?_; rw [G.out]; rintro e w1 ⟨rfl, hb1⟩
    obtain ⟨hc, hf⟩ := bcell hb1
    go_wp2_with fail
    refine region_grown (by kernel_rfl) (by kernel_rfl) ?_
    have C0 := Gr.cell w.heap.size 0 (.int .i64 r) hb1 (by simp [go_sem])
    have C1 := Gr.cell w.heap.size 1 (.int .i64 c) hb1 (by simp [go_sem])
    have LG : ∀ u : Gr w1, LibIs u.now := fun u => hl.below ((grow hb1).trans (u.below.mono (grow hb1).size))
    repeat (go_big_quiet_step (first | (go_at_call 32; exact grown_same (columnName _ _ hc1 hc2)) | (go_at_call 33; exact grown_of (dec _ _ ir.out (LG _)))))
    refine wpQuiet_nil ?_
    intro w2 hw2; obtain ⟨u, rfl⟩ := hw2
    go_wp2_with fail
    go_ret
    exact ⟨rets' (by rw [T.out, E.out]), (grow hb1).trans (u.below.mono (grow hb1).size)⟩
  · have G := Lib.hid (cellB_f h)
    have E := Lib.hid (nameL_no h)
    clear h
    go_enter Tryd.func13, Tryd.ntmps13
    go_wp2_with fail
    refine (good _ _ _).mono ?_; rw [G.out]; rintro e w1 ⟨rfl, hb1⟩
    go_wp2_with fail
    go_ret
    exact ⟨rets' (by rw [E.out]), grow hb1⟩
set_option maxHeartbeats 1000000 in
theorem rname (r c : Int) (w : World) :
    Calls Tryd.prog 14 #[.agg #[.int .i64 r, .int .i64 c]] w fun e w' => e = .returned (.string ⟨(nameL r c).toArray⟩) ∧ Below w.heap.size w w' := by
  by_cases h : Cell r c
  · have G := Lib.hid (cellB_t h)
    have E := Lib.hid (nameL_cell h)
    have T := Lib.hid (two_str (colL c) (Lib.itoa r))
    have ir := Lib.hid (cell_i64 h)
    have hs : ¬ 9223372036854775807 < (colL c).length + (Lib.itoa r).length := by
      have h1 := (itoa_len (cell_i64 h)).2
      have h2 := colL_len c
      split at h2 <;> omega
    have hc1 : 1 ≤ c := h.2.1
    have hc2 : c ≤ 50 := h.2.2
    clear h
    go_enter Tryd.func14, Tryd.ntmps14
    go_wp2_with fail
    refine (rgood _ _ _).mono ?_; rw [G.out]; rintro e w1 ⟨rfl, hb1⟩
    obtain ⟨hc, hf⟩ := bcell hb1
    go_wp2_with fail
    refine region_grown (by kernel_rfl) (by kernel_rfl) ?_
    have C0 := Gr.cell w.heap.size 0 (.int .i64 r) hb1 (by simp [go_sem])
    have C1 := Gr.cell w.heap.size 1 (.int .i64 c) hb1 (by simp [go_sem])
    repeat (go_big_quiet_step (first | (go_at_call 30; exact grown_same (rcolumn _ _ hc1 hc2)) | (go_at_call 34; exact grown_same (rdec _ _ ir.out))))
    refine wpQuiet_nil ?_
    intro w2 hw2; obtain ⟨u, rfl⟩ := hw2
    go_wp2_with fail
    go_ret
    exact ⟨rets' (by rw [T.out, E.out]), (grow hb1).trans (u.below.mono (grow hb1).size)⟩
  · have G := Lib.hid (cellB_f h)
    have E := Lib.hid (nameL_no h)
    clear h
    go_enter Tryd.func14, Tryd.ntmps14
    go_wp2_with fail
    refine (rgood _ _ _).mono ?_; rw [G.out]; rintro e w1 ⟨rfl, hb1⟩
    go_wp2_with fail
    go_ret
    exact ⟨rets' (by rw [E.out]), grow hb1⟩
end Go.Proofs.YtogahgbfdmfmcaaDoor.AddrC
