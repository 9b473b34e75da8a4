/-
  The walk of the statement AddrBack: for all arguments it answers true.
-/
import Derived.Test.YtogahgbfdmfmcaaDoorAddrW
import Derived.Test.YtogahgbfdmfmcaaDoorNumG
namespace Go.Proofs.YtogahgbfdmfmcaaDoor.AddrC
set_option linter.unusedVariables false
open Go.RowKit Go.Proofs.YtogahgbfdmfmcaaDoor.NumC

theorem tdiv_i64 {k : Int} (h : I64 k) : I64 (k.tdiv 1000) := by
  have h1 : (k.tdiv 1000).natAbs = k.natAbs / 1000 := Int.natAbs_tdiv k 1000
  unfold I64 at *
  generalize k.tdiv 1000 = q at *
  omega
theorem cell_mod {m1 m2 : Int} (h1 : 0 ≤ m1 ∧ m1 < 1000) (h2 : 0 ≤ m2 ∧ m2 < 50) : Cell (1 + m1) (1 + m2) := by unfold Cell; omega
theorem beforeAs {r c r' c' : Int} {v : Bool} (h : beforeB r c r' c' = v) (w : World) :
    Calls Tryd.prog 15 #[.agg #[.int .i64 r, .int .i64 c], .agg #[.int .i64 r', .int .i64 c']] w fun e w' => e = .returned (.bool v) ∧ Below w.heap.size w w' := by
  rw [← h]; exact before r c r' c' w
theorem names_apart {r c r' c' : Int} (h : Cell r c) (h' : Cell r' c') (hn : ¬ (r = r' ∧ c = c')) : (nameL r c == nameL r' c') = false := by
  rw [beq_eq_false_iff_ne]
  exact fun e => hn (name_inj h h' e)

set_option maxRecDepth 100000 in
set_option maxHeartbeats 4000000 in
theorem addrBack_same (k l m1 m2 n1 n2 : Int) (w : World) (hk : I64 k) (hl : I64 l) (hL : LibIs w) (h1 : 0 ≤ m1 ∧ m1 < 1000) (h2 : 0 ≤ m2 ∧ m2 < 50) (h3 : 0 ≤ n1 ∧ n1 < 1000) (h4 : 0 ≤ n2 ∧ n2 < 50)
    (e1 : modK k 1000 = m1) (e2 : modK (k.tdiv 1000) 50 = m2) (e3 : modK l 1000 = n1) (e4 : modK (l.tdiv 1000) 50 = n2) (hn : m1 = n1 ∧ m2 = n2) :
    Calls Tryd.prog 5 #[.int .i64 k, .int .i64 l] w fun e w' => e = .returned (.bool true) ∧ Below w.heap.size w w' := by
  have PS := Lib.hid (p_some (cell_mod h1 h2) rfl)
  have hsz : Hid ((⟨(nameL (1 + m1) (1 + m2)).toArray⟩ : ByteArray).size ≤ 9223372036854775807) := Lib.hid (by
    have h := cell_mod h1 h2
    rw [nameL_cell h]
    show (colL (1 + m2) ++ Lib.itoa (1 + m1)).toArray.size ≤ _
    rw [List.size_toArray, List.length_append]
    have h5 := (itoa_len (cell_i64 h)).2
    have h6 := colL_len (1 + m2)
    split at h6 <;> omega)
  obtain ⟨rfl, rfl⟩ := hn
  have Q1 : Hid (beforeB (1 + m1) (1 + m2) (1 + m1) (1 + m2) = false) := Lib.hid (decide_eq_false (by omega))
  have Q2 := Q1
  have E1 := Lib.hid e1; have E2 := Lib.hid e2; have E3 := Lib.hid e3; have E4 := Lib.hid e4
  clear e1 e2 e3 e4
  have i1 := Lib.hid (tdiv_i64 hk); have i2 := Lib.hid (tdiv_i64 hl)
  have ik := Lib.hid hk; have il := Lib.hid hl
  unfold I64 at hk hl
  have G : Below w.heap.size w ((w.alloc (.cells #[.int .i64 (1 + m1), .int .i64 (1 + m2)] 23)).alloc (.cells #[.int .i64 (1 + m1), .int .i64 (1 + m2)] 23)) := grown.trans (grown.mono grown.size)
  have a0 : ((w.alloc (.cells #[.int .i64 (1 + m1), .int .i64 (1 + m2)] 23)).alloc (.cells #[.int .i64 (1 + m1), .int .i64 (1 + m2)] 23)).cell? ⟨w.heap.size, 0, none⟩ = some (.int .i64 (1 + m1)) := by simp [go_sem]
  have a1 : ((w.alloc (.cells #[.int .i64 (1 + m1), .int .i64 (1 + m2)] 23)).alloc (.cells #[.int .i64 (1 + m1), .int .i64 (1 + m2)] 23)).cell? ⟨w.heap.size, 1, none⟩ = some (.int .i64 (1 + m2)) := by simp [go_sem]
  have b0 : ((w.alloc (.cells #[.int .i64 (1 + m1), .int .i64 (1 + m2)] 23)).alloc (.cells #[.int .i64 (1 + m1), .int .i64 (1 + m2)] 23)).cell? ⟨w.heap.size + 1, 0, none⟩ = some (.int .i64 (1 + m1)) := by simp [go_sem]
  have b1 : ((w.alloc (.cells #[.int .i64 (1 + m1), .int .i64 (1 + m2)] 23)).alloc (.cells #[.int .i64 (1 + m1), .int .i64 (1 + m2)] 23)).cell? ⟨w.heap.size + 1, 1, none⟩ = some (.int .i64 (1 + m2)) := by simp [go_sem]
  go_enter Tryd.func5, Tryd.ntmps5
  go_wp2_with fail
  refine (keepMod _ _ _ ik.out (by omega) (by omega)).mono ?_; rw [E1.out]; rintro e w' ⟨rfl, rfl⟩
  go_wp2_with fail
  refine (keepMod _ _ _ i1.out (by omega) (by omega)).mono ?_; rw [E2.out]; rintro e w' ⟨rfl, rfl⟩
  go_wp2_with fail
  refine (keepMod _ _ _ il.out (by omega) (by omega)).mono ?_; rw [E3.out]; rintro e w' ⟨rfl, rfl⟩
  go_wp2_with fail
  refine (keepMod _ _ _ i2.out (by omega) (by omega)).mono ?_; rw [E4.out]; rintro e w' ⟨rfl, rfl⟩
  go_wp2_with fail
  refine (name (1 + m1) (1 + m2) _ (hL.below G)).mono ?_; rintro e w1 ⟨rfl, hb1⟩
  have B1 := G.trans (hb1.mono G.size)
  replace a0 := cell_later hb1 a0; replace a1 := cell_later hb1 a1; replace b0 := cell_later hb1 b0; replace b1 := cell_later hb1 b1
  go_wp2_with fail
  refine (aparse ⟨(nameL (1 + m1) (1 + m2)).toArray⟩ _ hsz.out (hL.below B1)).mono ?_; rw [list_str, PS.out.1, PS.out.2.1, PS.out.2.2]; rintro e w2 ⟨rfl, hb2⟩
  have B2 := B1.trans (hb2.mono B1.size)
  have g2 : Below w2.heap.size w2 (w2.alloc (.cells #[.int .i64 (1 + m1), .int .i64 (1 + m2)] 23)) := grown
  have x0 : (w2.alloc (.cells #[.int .i64 (1 + m1), .int .i64 (1 + m2)] 23)).cell? ⟨w2.heap.size, 0, none⟩ = some (.int .i64 (1 + m1)) := by simp [go_sem]
  have x1 : (w2.alloc (.cells #[.int .i64 (1 + m1), .int .i64 (1 + m2)] 23)).cell? ⟨w2.heap.size, 1, none⟩ = some (.int .i64 (1 + m2)) := by simp [go_sem]
  replace a0 := Gr.cell _ _ _ g2 (cell_later hb2 a0); replace a1 := Gr.cell _ _ _ g2 (cell_later hb2 a1)
  replace b0 := Gr.cell _ _ _ g2 (cell_later hb2 b0); replace b1 := Gr.cell _ _ _ g2 (cell_later hb2 b1)
  replace x0 := Gr.cell _ _ _ (Below.refl _ _) x0; replace x1 := Gr.cell _ _ _ (Below.refl _ _) x1
  have B3 := B2.trans (g2.mono B2.size)
  go_wp2_with fail
  generalize hW : (w2.alloc (.cells #[.int .i64 (1 + m1), .int .i64 (1 + m2)] 23)) = W at *
  have LG : ∀ u : Gr W, LibIs u.now := fun u => hL.below (B3.trans (u.below.mono B3.size))
  refine region_grown (by kernel_rfl) (by kernel_rfl) ?_
  repeat (go_big_quiet_step (first
    | (go_at_call 13; exact grown_of (name _ _ _ (LG _)))
    | (go_at_call 15; first | with_reducible exact grown_of (beforeAs Q1.out _) | with_reducible exact grown_of (beforeAs Q2.out _))
    | (go_at_call 8; exact grown_of (awakes _ (LG _)))))
  refine wpQuiet_nil ?_
  intro w3 hw3; obtain ⟨u, rfl⟩ := hw3
  go_wp2_with fail
  go_ret
  exact ⟨ret1 rfl, B3.trans (u.below.mono B3.size)⟩

set_option maxRecDepth 100000 in
set_option maxHeartbeats 4000000 in
theorem addrBack_row1 (k l m1 m2 n1 n2 : Int) (w : World) (hk : I64 k) (hl : I64 l) (hL : LibIs w) (h1 : 0 ≤ m1 ∧ m1 < 1000) (h2 : 0 ≤ m2 ∧ m2 < 50) (h3 : 0 ≤ n1 ∧ n1 < 1000) (h4 : 0 ≤ n2 ∧ n2 < 50)
    (e1 : modK k 1000 = m1) (e2 : modK (k.tdiv 1000) 50 = m2) (e3 : modK l 1000 = n1) (e4 : modK (l.tdiv 1000) 50 = n2) (hn : m1 < n1) :
    Calls Tryd.prog 5 #[.int .i64 k, .int .i64 l] w fun e w' => e = .returned (.bool true) ∧ Below w.heap.size w w' := by
  have PS := Lib.hid (p_some (cell_mod h1 h2) rfl)
  have hsz : Hid ((⟨(nameL (1 + m1) (1 + m2)).toArray⟩ : ByteArray).size ≤ 9223372036854775807) := Lib.hid (by
    have h := cell_mod h1 h2
    rw [nameL_cell h]
    show (colL (1 + m2) ++ Lib.itoa (1 + m1)).toArray.size ≤ _
    rw [List.size_toArray, List.length_append]
    have h5 := (itoa_len (cell_i64 h)).2
    have h6 := colL_len (1 + m2)
    split at h6 <;> omega)
  have N := names_apart (cell_mod h1 h2) (cell_mod h3 h4) (by omega)
  have s1 : (m1 == n1) = false := beq_eq_false_iff_ne.2 (by omega)
  have s2 : (1 + m1 == 1 + n1) = false := beq_eq_false_iff_ne.2 (by omega)
  have Q1 : Hid (beforeB (1 + m1) (1 + m2) (1 + n1) (1 + n2) = true) := Lib.hid (decide_eq_true (by omega))
  have Q2 : Hid (beforeB (1 + n1) (1 + n2) (1 + m1) (1 + m2) = false) := Lib.hid (decide_eq_false (by omega))
  have E1 := Lib.hid e1; have E2 := Lib.hid e2; have E3 := Lib.hid e3; have E4 := Lib.hid e4
  clear e1 e2 e3 e4
  have i1 := Lib.hid (tdiv_i64 hk); have i2 := Lib.hid (tdiv_i64 hl)
  have ik := Lib.hid hk; have il := Lib.hid hl
  unfold I64 at hk hl
  have G : Below w.heap.size w ((w.alloc (.cells #[.int .i64 (1 + m1), .int .i64 (1 + m2)] 23)).alloc (.cells #[.int .i64 (1 + n1), .int .i64 (1 + n2)] 23)) := grown.trans (grown.mono grown.size)
  have a0 : ((w.alloc (.cells #[.int .i64 (1 + m1), .int .i64 (1 + m2)] 23)).alloc (.cells #[.int .i64 (1 + n1), .int .i64 (1 + n2)] 23)).cell? ⟨w.heap.size, 0, none⟩ = some (.int .i64 (1 + m1)) := by simp [go_sem]
  have a1 : ((w.alloc (.cells #[.int .i64 (1 + m1), .int .i64 (1 + m2)] 23)).alloc (.cells #[.int .i64 (1 + n1), .int .i64 (1 + n2)] 23)).cell? ⟨w.heap.size, 1, none⟩ = some (.int .i64 (1 + m2)) := by simp [go_sem]
  have b0 : ((w.alloc (.cells #[.int .i64 (1 + m1), .int .i64 (1 + m2)] 23)).alloc (.cells #[.int .i64 (1 + n1), .int .i64 (1 + n2)] 23)).cell? ⟨w.heap.size + 1, 0, none⟩ = some (.int .i64 (1 + n1)) := by simp [go_sem]
  have b1 : ((w.alloc (.cells #[.int .i64 (1 + m1), .int .i64 (1 + m2)] 23)).alloc (.cells #[.int .i64 (1 + n1), .int .i64 (1 + n2)] 23)).cell? ⟨w.heap.size + 1, 1, none⟩ = some (.int .i64 (1 + n2)) := by simp [go_sem]
  go_enter Tryd.func5, Tryd.ntmps5
  go_wp2_with fail
  refine (keepMod _ _ _ ik.out (by omega) (by omega)).mono ?_; rw [E1.out]; rintro e w' ⟨rfl, rfl⟩
  go_wp2_with fail
  refine (keepMod _ _ _ i1.out (by omega) (by omega)).mono ?_; rw [E2.out]; rintro e w' ⟨rfl, rfl⟩
  go_wp2_with fail
  refine (keepMod _ _ _ il.out (by omega) (by omega)).mono ?_; rw [E3.out]; rintro e w' ⟨rfl, rfl⟩
  go_wp2_with fail
  refine (keepMod _ _ _ i2.out (by omega) (by omega)).mono ?_; rw [E4.out]; rintro e w' ⟨rfl, rfl⟩
  go_wp2_with fail
  refine (name (1 + m1) (1 + m2) _ (hL.below G)).mono ?_; rintro e w1 ⟨rfl, hb1⟩
  have B1 := G.trans (hb1.mono G.size)
  replace a0 := cell_later hb1 a0; replace a1 := cell_later hb1 a1; replace b0 := cell_later hb1 b0; replace b1 := cell_later hb1 b1
  go_wp2_with fail
  refine (aparse ⟨(nameL (1 + m1) (1 + m2)).toArray⟩ _ hsz.out (hL.below B1)).mono ?_; rw [list_str, PS.out.1, PS.out.2.1, PS.out.2.2]; rintro e w2 ⟨rfl, hb2⟩
  have B2 := B1.trans (hb2.mono B1.size)
  have g2 : Below w2.heap.size w2 (w2.alloc (.cells #[.int .i64 (1 + m1), .int .i64 (1 + m2)] 23)) := grown
  have x0 : (w2.alloc (.cells #[.int .i64 (1 + m1), .int .i64 (1 + m2)] 23)).cell? ⟨w2.heap.size, 0, none⟩ = some (.int .i64 (1 + m1)) := by simp [go_sem]
  have x1 : (w2.alloc (.cells #[.int .i64 (1 + m1), .int .i64 (1 + m2)] 23)).cell? ⟨w2.heap.size, 1, none⟩ = some (.int .i64 (1 + m2)) := by simp [go_sem]
  replace a0 := Gr.cell _ _ _ g2 (cell_later hb2 a0); replace a1 := Gr.cell _ _ _ g2 (cell_later hb2 a1)
  replace b0 := Gr.cell _ _ _ g2 (cell_later hb2 b0); replace b1 := Gr.cell _ _ _ g2 (cell_later hb2 b1)
  replace x0 := Gr.cell _ _ _ (Below.refl _ _) x0; replace x1 := Gr.cell _ _ _ (Below.refl _ _) x1
  have B3 := B2.trans (g2.mono B2.size)
  go_wp2_with fail
  generalize hW : (w2.alloc (.cells #[.int .i64 (1 + m1), .int .i64 (1 + m2)] 23)) = W at *
  have LG : ∀ u : Gr W, LibIs u.now := fun u => hL.below (B3.trans (u.below.mono B3.size))
  refine region_grown (by kernel_rfl) (by kernel_rfl) ?_
  repeat (go_big_quiet_step (first
    | (go_at_call 13; exact grown_of (name _ _ _ (LG _)))
    | (go_at_call 15; first | with_reducible exact grown_of (beforeAs Q1.out _) | with_reducible exact grown_of (beforeAs Q2.out _))
    | (go_at_call 8; exact grown_of (awakes _ (LG _)))))
  refine wpQuiet_nil ?_
  intro w3 hw3; obtain ⟨u, rfl⟩ := hw3
  go_wp2_with fail
  go_ret
  exact ⟨ret1 rfl, B3.trans (u.below.mono B3.size)⟩

set_option maxRecDepth 100000 in
set_option maxHeartbeats 4000000 in
theorem addrBack_row2 (k l m1 m2 n1 n2 : Int) (w : World) (hk : I64 k) (hl : I64 l) (hL : LibIs w) (h1 : 0 ≤ m1 ∧ m1 < 1000) (h2 : 0 ≤ m2 ∧ m2 < 50) (h3 : 0 ≤ n1 ∧ n1 < 1000) (h4 : 0 ≤ n2 ∧ n2 < 50)
    (e1 : modK k 1000 = m1) (e2 : modK (k.tdiv 1000) 50 = m2) (e3 : modK l 1000 = n1) (e4 : modK (l.tdiv 1000) 50 = n2) (hn : n1 < m1) :
    Calls Tryd.prog 5 #[.int .i64 k, .int .i64 l] w fun e w' => e = .returned (.bool true) ∧ Below w.heap.size w w' := by
  have PS := Lib.hid (p_some (cell_mod h1 h2) rfl)
  have hsz : Hid ((⟨(nameL (1 + m1) (1 + m2)).toArray⟩ : ByteArray).size ≤ 9223372036854775807) := Lib.hid (by
    have h := cell_mod h1 h2
    rw [nameL_cell h]
    show (colL (1 + m2) ++ Lib.itoa (1 + m1)).toArray.size ≤ _
    rw [List.size_toArray, List.length_append]
    have h5 := (itoa_len (cell_i64 h)).2
    have h6 := colL_len (1 + m2)
    split at h6 <;> omega)
  have N := names_apart (cell_mod h1 h2) (cell_mod h3 h4) (by omega)
  have s1 : (m1 == n1) = false := beq_eq_false_iff_ne.2 (by omega)
  have s2 : (1 + m1 == 1 + n1) = false := beq_eq_false_iff_ne.2 (by omega)
  have Q1 : Hid (beforeB (1 + m1) (1 + m2) (1 + n1) (1 + n2) = false) := Lib.hid (decide_eq_false (by omega))
  have Q2 : Hid (beforeB (1 + n1) (1 + n2) (1 + m1) (1 + m2) = true) := Lib.hid (decide_eq_true (by omega))
  have E1 := Lib.hid e1; have E2 := Lib.hid e2; have E3 := Lib.hid e3; have E4 := Lib.hid e4
  clear e1 e2 e3 e4
  have i1 := Lib.hid (tdiv_i64 hk); have i2 := Lib.hid (tdiv_i64 hl)
  have ik := Lib.hid hk; have il := Lib.hid hl
  unfold I64 at hk hl
  have G : Below w.heap.size w ((w.alloc (.cells #[.int .i64 (1 + m1), .int .i64 (1 + m2)] 23)).alloc (.cells #[.int .i64 (1 + n1), .int .i64 (1 + n2)] 23)) := grown.trans (grown.mono grown.size)
  have a0 : ((w.alloc (.cells #[.int .i64 (1 + m1), .int .i64 (1 + m2)] 23)).alloc (.cells #[.int .i64 (1 + n1), .int .i64 (1 + n2)] 23)).cell? ⟨w.heap.size, 0, none⟩ = some (.int .i64 (1 + m1)) := by simp [go_sem]
  have a1 : ((w.alloc (.cells #[.int .i64 (1 + m1), .int .i64 (1 + m2)] 23)).alloc (.cells #[.int .i64 (1 + n1), .int .i64 (1 + n2)] 23)).cell? ⟨w.heap.size, 1, none⟩ = some (.int .i64 (1 + m2)) := by simp [go_sem]
  have b0 : ((w.alloc (.cells #[.int .i64 (1 + m1), .int .i64 (1 + m2)] 23)).alloc (.cells #[.int .i64 (1 + n1), .int .i64 (1 + n2)] 23)).cell? ⟨w.heap.size + 1, 0, none⟩ = some (.int .i64 (1 + n1)) := by simp [go_sem]
  have b1 : ((w.alloc (.cells #[.int .i64 (1 + m1), .int .i64 (1 + m2)] 23)).alloc (.cells #[.int .i64 (1 + n1), .int .i64 (1 + n2)] 23)).cell? ⟨w.heap.size + 1, 1, none⟩ = some (.int .i64 (1 + n2)) := by simp [go_sem]
  go_enter Tryd.func5, Tryd.ntmps5
  go_wp2_with fail
  refine (keepMod _ _ _ ik.out (by omega) (by omega)).mono ?_; rw [E1.out]; rintro e w' ⟨rfl, rfl⟩
  go_wp2_with fail
  refine (keepMod _ _ _ i1.out (by omega) (by omega)).mono ?_; rw [E2.out]; rintro e w' ⟨rfl, rfl⟩
  go_wp2_with fail
  refine (keepMod _ _ _ il.out (by omega) (by omega)).mono ?_; rw [E3.out]; rintro e w' ⟨rfl, rfl⟩
  go_wp2_with fail
  refine (keepMod _ _ _ i2.out (by omega) (by omega)).mono ?_; rw [E4.out]; rintro e w' ⟨rfl, rfl⟩
  go_wp2_with fail
  refine (name (1 + m1) (1 + m2) _ (hL.below G)).mono ?_; rintro e w1 ⟨rfl, hb1⟩
  have B1 := G.trans (hb1.mono G.size)
  replace a0 := cell_later hb1 a0; replace a1 := cell_later hb1 a1; replace b0 := cell_later hb1 b0; replace b1 := cell_later hb1 b1
  go_wp2_with fail
  refine (aparse ⟨(nameL (1 + m1) (1 + m2)).toArray⟩ _ hsz.out (hL.below B1)).mono ?_; rw [list_str, PS.out.1, PS.out.2.1, PS.out.2.2]; rintro e w2 ⟨rfl, hb2⟩
  have B2 := B1.trans (hb2.mono B1.size)
  have g2 : Below w2.heap.size w2 (w2.alloc (.cells #[.int .i64 (1 + m1), .int .i64 (1 + m2)] 23)) := grown
  have x0 : (w2.alloc (.cells #[.int .i64 (1 + m1), .int .i64 (1 + m2)] 23)).cell? ⟨w2.heap.size, 0, none⟩ = some (.int .i64 (1 + m1)) := by simp [go_sem]
  have x1 : (w2.alloc (.cells #[.int .i64 (1 + m1), .int .i64 (1 + m2)] 23)).cell? ⟨w2.heap.size, 1, none⟩ = some (.int .i64 (1 + m2)) := by simp [go_sem]
  replace a0 := Gr.cell _ _ _ g2 (cell_later hb2 a0); replace a1 := Gr.cell _ _ _ g2 (cell_later hb2 a1)
  replace b0 := Gr.cell _ _ _ g2 (cell_later hb2 b0); replace b1 := Gr.cell _ _ _ g2 (cell_later hb2 b1)
  replace x0 := Gr.cell _ _ _ (Below.refl _ _) x0; replace x1 := Gr.cell _ _ _ (Below.refl _ _) x1
  have B3 := B2.trans (g2.mono B2.size)
  go_wp2_with fail
  generalize hW : (w2.alloc (.cells #[.int .i64 (1 + m1), .int .i64 (1 + m2)] 23)) = W at *
  have LG : ∀ u : Gr W, LibIs u.now := fun u => hL.below (B3.trans (u.below.mono B3.size))
  refine region_grown (by kernel_rfl) (by kernel_rfl) ?_
  repeat (go_big_quiet_step (first
    | (go_at_call 13; exact grown_of (name _ _ _ (LG _)))
    | (go_at_call 15; first | with_reducible exact grown_of (beforeAs Q1.out _) | with_reducible exact grown_of (beforeAs Q2.out _))
    | (go_at_call 8; exact grown_of (awakes _ (LG _)))))
  refine wpQuiet_nil ?_
  intro w3 hw3; obtain ⟨u, rfl⟩ := hw3
  go_wp2_with fail
  go_ret
  exact ⟨ret1 rfl, B3.trans (u.below.mono B3.size)⟩

set_option maxRecDepth 100000 in
set_option maxHeartbeats 4000000 in
theorem addrBack_col1 (k l m1 m2 n1 n2 : Int) (w : World) (hk : I64 k) (hl : I64 l) (hL : LibIs w) (h1 : 0 ≤ m1 ∧ m1 < 1000) (h2 : 0 ≤ m2 ∧ m2 < 50) (h3 : 0 ≤ n1 ∧ n1 < 1000) (h4 : 0 ≤ n2 ∧ n2 < 50)
    (e1 : modK k 1000 = m1) (e2 : modK (k.tdiv 1000) 50 = m2) (e3 : modK l 1000 = n1) (e4 : modK (l.tdiv 1000) 50 = n2) (hn : m1 = n1) (hn2 : m2 < n2) :
    Calls Tryd.prog 5 #[.int .i64 k, .int .i64 l] w fun e w' => e = .returned (.bool true) ∧ Below w.heap.size w w' := by
  have PS := Lib.hid (p_some (cell_mod h1 h2) rfl)
  have hsz : Hid ((⟨(nameL (1 + m1) (1 + m2)).toArray⟩ : ByteArray).size ≤ 9223372036854775807) := Lib.hid (by
    have h := cell_mod h1 h2
    rw [nameL_cell h]
    show (colL (1 + m2) ++ Lib.itoa (1 + m1)).toArray.size ≤ _
    rw [List.size_toArray, List.length_append]
    have h5 := (itoa_len (cell_i64 h)).2
    have h6 := colL_len (1 + m2)
    split at h6 <;> omega)
  subst hn
  have N := names_apart (cell_mod h1 h2) (cell_mod h1 h4) (by omega)
  have s1 : (m2 == n2) = false := beq_eq_false_iff_ne.2 (by omega)
  have s2 : (1 + m2 == 1 + n2) = false := beq_eq_false_iff_ne.2 (by omega)
  have Q1 : Hid (beforeB (1 + m1) (1 + m2) (1 + m1) (1 + n2) = true) := Lib.hid (decide_eq_true (by omega))
  have Q2 : Hid (beforeB (1 + m1) (1 + n2) (1 + m1) (1 + m2) = false) := Lib.hid (decide_eq_false (by omega))
  have E1 := Lib.hid e1; have E2 := Lib.hid e2; have E3 := Lib.hid e3; have E4 := Lib.hid e4
  clear e1 e2 e3 e4
  have i1 := Lib.hid (tdiv_i64 hk); have i2 := Lib.hid (tdiv_i64 hl)
  have ik := Lib.hid hk; have il := Lib.hid hl
  unfold I64 at hk hl
  have G : Below w.heap.size w ((w.alloc (.cells #[.int .i64 (1 + m1), .int .i64 (1 + m2)] 23)).alloc (.cells #[.int .i64 (1 + m1), .int .i64 (1 + n2)] 23)) := grown.trans (grown.mono grown.size)
  have a0 : ((w.alloc (.cells #[.int .i64 (1 + m1), .int .i64 (1 + m2)] 23)).alloc (.cells #[.int .i64 (1 + m1), .int .i64 (1 + n2)] 23)).cell? ⟨w.heap.size, 0, none⟩ = some (.int .i64 (1 + m1)) := by simp [go_sem]
  have a1 : ((w.alloc (.cells #[.int .i64 (1 + m1), .int .i64 (1 + m2)] 23)).alloc (.cells #[.int .i64 (1 + m1), .int .i64 (1 + n2)] 23)).cell? ⟨w.heap.size, 1, none⟩ = some (.int .i64 (1 + m2)) := by simp [go_sem]
  have b0 : ((w.alloc (.cells #[.int .i64 (1 + m1), .int .i64 (1 + m2)] 23)).alloc (.cells #[.int .i64 (1 + m1), .int .i64 (1 + n2)] 23)).cell? ⟨w.heap.size + 1, 0, none⟩ = some (.int .i64 (1 + m1)) := by simp [go_sem]
  have b1 : ((w.alloc (.cells #[.int .i64 (1 + m1), .int .i64 (1 + m2)] 23)).alloc (.cells #[.int .i64 (1 + m1), .int .i64 (1 + n2)] 23)).cell? ⟨w.heap.size + 1, 1, none⟩ = some (.int .i64 (1 + n2)) := by simp [go_sem]
  go_enter Tryd.func5, Tryd.ntmps5
  go_wp2_with fail
  refine (keepMod _ _ _ ik.out (by omega) (by omega)).mono ?_; rw [E1.out]; rintro e w' ⟨rfl, rfl⟩
  go_wp2_with fail
  refine (keepMod _ _ _ i1.out (by omega) (by omega)).mono ?_; rw [E2.out]; rintro e w' ⟨rfl, rfl⟩
  go_wp2_with fail
  refine (keepMod _ _ _ il.out (by omega) (by omega)).mono ?_; rw [E3.out]; rintro e w' ⟨rfl, rfl⟩
  go_wp2_with fail
  refine (keepMod _ _ _ i2.out (by omega) (by omega)).mono ?_; rw [E4.out]; rintro e w' ⟨rfl, rfl⟩
  go_wp2_with fail
  refine (name (1 + m1) (1 + m2) _ (hL.below G)).mono ?_; rintro e w1 ⟨rfl, hb1⟩
  have B1 := G.trans (hb1.mono G.size)
  replace a0 := cell_later hb1 a0; replace a1 := cell_later hb1 a1; replace b0 := cell_later hb1 b0; replace b1 := cell_later hb1 b1
  go_wp2_with fail
  refine (aparse ⟨(nameL (1 + m1) (1 + m2)).toArray⟩ _ hsz.out (hL.below B1)).mono ?_; rw [list_str, PS.out.1, PS.out.2.1, PS.out.2.2]; rintro e w2 ⟨rfl, hb2⟩
  have B2 := B1.trans (hb2.mono B1.size)
  have g2 : Below w2.heap.size w2 (w2.alloc (.cells #[.int .i64 (1 + m1), .int .i64 (1 + m2)] 23)) := grown
  have x0 : (w2.alloc (.cells #[.int .i64 (1 + m1), .int .i64 (1 + m2)] 23)).cell? ⟨w2.heap.size, 0, none⟩ = some (.int .i64 (1 + m1)) := by simp [go_sem]
  have x1 : (w2.alloc (.cells #[.int .i64 (1 + m1), .int .i64 (1 + m2)] 23)).cell? ⟨w2.heap.size, 1, none⟩ = some (.int .i64 (1 + m2)) := by simp [go_sem]
  replace a0 := Gr.cell _ _ _ g2 (cell_later hb2 a0); replace a1 := Gr.cell _ _ _ g2 (cell_later hb2 a1)
  replace b0 := Gr.cell _ _ _ g2 (cell_later hb2 b0); replace b1 := Gr.cell _ _ _ g2 (cell_later hb2 b1)
  replace x0 := Gr.cell _ _ _ (Below.refl _ _) x0; replace x1 := Gr.cell _ _ _ (Below.refl _ _) x1
  have B3 := B2.trans (g2.mono B2.size)
  go_wp2_with fail
  generalize hW : (w2.alloc (.cells #[.int .i64 (1 + m1), .int .i64 (1 + m2)] 23)) = W at *
  have LG : ∀ u : Gr W, LibIs u.now := fun u => hL.below (B3.trans (u.below.mono B3.size))
  refine region_grown (by kernel_rfl) (by kernel_rfl) ?_
  repeat (go_big_quiet_step (first
    | (go_at_call 13; exact grown_of (name _ _ _ (LG _)))
    | (go_at_call 15; first | with_reducible exact grown_of (beforeAs Q1.out _) | with_reducible exact grown_of (beforeAs Q2.out _))
    | (go_at_call 8; exact grown_of (awakes _ (LG _)))))
  refine wpQuiet_nil ?_
  intro w3 hw3; obtain ⟨u, rfl⟩ := hw3
  go_wp2_with fail
  go_ret
  exact ⟨ret1 rfl, B3.trans (u.below.mono B3.size)⟩

set_option maxRecDepth 100000 in
set_option maxHeartbeats 4000000 in
theorem addrBack_col2 (k l m1 m2 n1 n2 : Int) (w : World) (hk : I64 k) (hl : I64 l) (hL : LibIs w) (h1 : 0 ≤ m1 ∧ m1 < 1000) (h2 : 0 ≤ m2 ∧ m2 < 50) (h3 : 0 ≤ n1 ∧ n1 < 1000) (h4 : 0 ≤ n2 ∧ n2 < 50)
    (e1 : modK k 1000 = m1) (e2 : modK (k.tdiv 1000) 50 = m2) (e3 : modK l 1000 = n1) (e4 : modK (l.tdiv 1000) 50 = n2) (hn : m1 = n1) (hn2 : n2 < m2) :
    Calls Tryd.prog 5 #[.int .i64 k, .int .i64 l] w fun e w' => e = .returned (.bool true) ∧ Below w.heap.size w w' := by
  have PS := Lib.hid (p_some (cell_mod h1 h2) rfl)
  have hsz : Hid ((⟨(nameL (1 + m1) (1 + m2)).toArray⟩ : ByteArray).size ≤ 9223372036854775807) := Lib.hid (by
    have h := cell_mod h1 h2
    rw [nameL_cell h]
    show (colL (1 + m2) ++ Lib.itoa (1 + m1)).toArray.size ≤ _
    rw [List.size_toArray, List.length_append]
    have h5 := (itoa_len (cell_i64 h)).2
    have h6 := colL_len (1 + m2)
    split at h6 <;> omega)
  subst hn
  have N := names_apart (cell_mod h1 h2) (cell_mod h1 h4) (by omega)
  have s1 : (m2 == n2) = false := beq_eq_false_iff_ne.2 (by omega)
  have s2 : (1 + m2 == 1 + n2) = false := beq_eq_false_iff_ne.2 (by omega)
  have Q1 : Hid (beforeB (1 + m1) (1 + m2) (1 + m1) (1 + n2) = false) := Lib.hid (decide_eq_false (by omega))
  have Q2 : Hid (beforeB (1 + m1) (1 + n2) (1 + m1) (1 + m2) = true) := Lib.hid (decide_eq_true (by omega))
  have E1 := Lib.hid e1; have E2 := Lib.hid e2; have E3 := Lib.hid e3; have E4 := Lib.hid e4
  clear e1 e2 e3 e4
  have i1 := Lib.hid (tdiv_i64 hk); have i2 := Lib.hid (tdiv_i64 hl)
  have ik := Lib.hid hk; have il := Lib.hid hl
  unfold I64 at hk hl
  have G : Below w.heap.size w ((w.alloc (.cells #[.int .i64 (1 + m1), .int .i64 (1 + m2)] 23)).alloc (.cells #[.int .i64 (1 + m1), .int .i64 (1 + n2)] 23)) := grown.trans (grown.mono grown.size)
  have a0 : ((w.alloc (.cells #[.int .i64 (1 + m1), .int .i64 (1 + m2)] 23)).alloc (.cells #[.int .i64 (1 + m1), .int .i64 (1 + n2)] 23)).cell? ⟨w.heap.size, 0, none⟩ = some (.int .i64 (1 + m1)) := by simp [go_sem]
  have a1 : ((w.alloc (.cells #[.int .i64 (1 + m1), .int .i64 (1 + m2)] 23)).alloc (.cells #[.int .i64 (1 + m1), .int .i64 (1 + n2)] 23)).cell? ⟨w.heap.size, 1, none⟩ = some (.int .i64 (1 + m2)) := by simp [go_sem]
  have b0 : ((w.alloc (.cells #[.int .i64 (1 + m1), .int .i64 (1 + m2)] 23)).alloc (.cells #[.int .i64 (1 + m1), .int .i64 (1 + n2)] 23)).cell? ⟨w.heap.size + 1, 0, none⟩ = some (.int .i64 (1 + m1)) := by simp [go_sem]
  have b1 : ((w.alloc (.cells #[.int .i64 (1 + m1), .int .i64 (1 + m2)] 23)).alloc (.cells #[.int .i64 (1 + m1), .int .i64 (1 + n2)] 23)).cell? ⟨w.heap.size + 1, 1, none⟩ = some (.int .i64 (1 + n2)) := by simp [go_sem]
  go_enter Tryd.func5, Tryd.ntmps5
  go_wp2_with fail
  refine (keepMod _ _ _ ik.out (by omega) (by omega)).mono ?_; rw [E1.out]; rintro e w' ⟨rfl, rfl⟩
  go_wp2_with fail
  refine (keepMod _ _ _ i1.out (by omega) (by omega)).mono ?_; rw [E2.out]; rintro e w' ⟨rfl, rfl⟩
  go_wp2_with fail
  refine (keepMod _ _ _ il.out (by omega) (by omega)).mono ?_; rw [E3.out]; rintro e w' ⟨rfl, rfl⟩
  go_wp2_with fail
  refine (keepMod _ _ _ i2.out (by omega) (by omega)).mono ?_; rw [E4.out]; rintro e w' ⟨rfl, rfl⟩
  go_wp2_with fail
  refine (name (1 + m1) (1 + m2) _ (hL.below G)).mono ?_; rintro e w1 ⟨rfl, hb1⟩
  have B1 := G.trans (hb1.mono G.size)
  replace a0 := cell_later hb1 a0; replace a1 := cell_later hb1 a1; replace b0 := cell_later hb1 b0; replace b1 := cell_later hb1 b1
  go_wp2_with fail
  refine (aparse ⟨(nameL (1 + m1) (1 + m2)).toArray⟩ _ hsz.out (hL.below B1)).mono ?_; rw [list_str, PS.out.1, PS.out.2.1, PS.out.2.2]; rintro e w2 ⟨rfl, hb2⟩
  have B2 := B1.trans (hb2.mono B1.size)
  have g2 : Below w2.heap.size w2 (w2.alloc (.cells #[.int .i64 (1 + m1), .int .i64 (1 + m2)] 23)) := grown
  have x0 : (w2.alloc (.cells #[.int .i64 (1 + m1), .int .i64 (1 + m2)] 23)).cell? ⟨w2.heap.size, 0, none⟩ = some (.int .i64 (1 + m1)) := by simp [go_sem]
  have x1 : (w2.alloc (.cells #[.int .i64 (1 + m1), .int .i64 (1 + m2)] 23)).cell? ⟨w2.heap.size, 1, none⟩ = some (.int .i64 (1 + m2)) := by simp [go_sem]
  replace a0 := Gr.cell _ _ _ g2 (cell_later hb2 a0); replace a1 := Gr.cell _ _ _ g2 (cell_later hb2 a1)
  replace b0 := Gr.cell _ _ _ g2 (cell_later hb2 b0); replace b1 := Gr.cell _ _ _ g2 (cell_later hb2 b1)
  replace x0 := Gr.cell _ _ _ (Below.refl _ _) x0; replace x1 := Gr.cell _ _ _ (Below.refl _ _) x1
  have B3 := B2.trans (g2.mono B2.size)
  go_wp2_with fail
  generalize hW : (w2.alloc (.cells #[.int .i64 (1 + m1), .int .i64 (1 + m2)] 23)) = W at *
  have LG : ∀ u : Gr W, LibIs u.now := fun u => hL.below (B3.trans (u.below.mono B3.size))
  refine region_grown (by kernel_rfl) (by kernel_rfl) ?_
  repeat (go_big_quiet_step (first
    | (go_at_call 13; exact grown_of (name _ _ _ (LG _)))
    | (go_at_call 15; first | with_reducible exact grown_of (beforeAs Q1.out _) | with_reducible exact grown_of (beforeAs Q2.out _))
    | (go_at_call 8; exact grown_of (awakes _ (LG _)))))
  refine wpQuiet_nil ?_
  intro w3 hw3; obtain ⟨u, rfl⟩ := hw3
  go_wp2_with fail
  go_ret
  exact ⟨ret1 rfl, B3.trans (u.below.mono B3.size)⟩

theorem addrBack (k l : Int) (w : World) (hk : I64 k) (hl : I64 l) (hL : LibIs w) :
    Calls Tryd.prog 5 #[.int .i64 k, .int .i64 l] w fun e w' => e = .returned (.bool true) ∧ Below w.heap.size w w' := by
  have b1 := modK_bd k (m := 1000) (by omega)
  have b2 := modK_bd (k.tdiv 1000) (m := 50) (by omega)
  have b3 := modK_bd l (m := 1000) (by omega)
  have b4 := modK_bd (l.tdiv 1000) (m := 50) (by omega)
  have hc : (modK k 1000 = modK l 1000 ∧ modK (k.tdiv 1000) 50 = modK (l.tdiv 1000) 50) ∨ modK k 1000 < modK l 1000 ∨ modK l 1000 < modK k 1000 ∨ (modK k 1000 = modK l 1000 ∧ modK (k.tdiv 1000) 50 < modK (l.tdiv 1000) 50) ∨ (modK k 1000 = modK l 1000 ∧ modK (l.tdiv 1000) 50 < modK (k.tdiv 1000) 50) := by omega
  rcases hc with hn | hn | hn | ⟨hn, hn2⟩ | ⟨hn, hn2⟩
  · exact addrBack_same k l _ _ _ _ w hk hl hL b1 b2 b3 b4 rfl rfl rfl rfl hn
  · exact addrBack_row1 k l _ _ _ _ w hk hl hL b1 b2 b3 b4 rfl rfl rfl rfl hn
  · exact addrBack_row2 k l _ _ _ _ w hk hl hL b1 b2 b3 b4 rfl rfl rfl rfl hn
  · exact addrBack_col1 k l _ _ _ _ w hk hl hL b1 b2 b3 b4 rfl rfl rfl rfl hn hn2
  · exact addrBack_col2 k l _ _ _ _ w hk hl hL b1 b2 b3 b4 rfl rfl rfl rfl hn hn2
end Go.Proofs.YtogahgbfdmfmcaaDoor.AddrC
