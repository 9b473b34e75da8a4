/-
  The walk of the statement TextWhole.
-/
import Derived.Test.YtgkabngpekokaaaTextW
namespace Go.Proofs.Ytgkabngpekokaaa.TextC
set_option linter.unusedVariables false
set_option linter.unusedSimpArgs false
open Go.RowKit Go.Proofs.Ytgkabngpekokaaa.NumC
open Go.Proofs.Ytgkabngpekokaaa.ValueC (Val failV failV_yes ofV nos rfail rof sameB keepValue)

theorem grown {w : World} {o : Obj} : Below w.heap.size w (w.alloc o) := (Below.refl _ _).alloc (Nat.le_refl _) _
theorem val_eta {V : Val} {s : ByteArray} (h : V = txtV s) : V = ⟨3, 0, s⟩ := h
set_option maxHeartbeats 1000000 in
set_option maxRecDepth 100000 in
theorem textWhole (s : ByteArray) (n k : Nat) (w : World) (hn : n ≤ 255) (hk : k ≤ 255) {mx : Int} (hM : MaxIs w mx) : Calls Try.prog 6 #[.string s, .int .u8 n, .int .u8 k] w fun e w' => e = .returned (.bool true) ∧ Below w.heap.size w w' := by
  have B := Below.refl w.heap.size w
  by_cases hs : 200 < s.size
  · have hs2 : (200 : Int) < (s.size : Int) := by omega
    go_enter Try.func6, Try.ntmps6
    go_wp2_with fail
    refine (cwakes9 _ hM).mono ?_; rintro e x36 ⟨rfl, hb36⟩
    replace B := B.trans (hb36.mono B.size)
    replace hM := cell_later hb36 hM
    go_wp2
    go_ret
    exact ⟨ret1 rfl, B⟩
  · have hs2 : ¬ (200 : Int) < (s.size : Int) := by omega
    have hle : s.size ≤ 200 := by omega
    have q0 := field0
    have q1 := field1
    have q2 := field2
    have hJ := whole_join s n hle
    obtain ⟨m, hF, hmn⟩ := part_found s n k hle
    have e3 : midV s ((n : Int) + 1) 300 = midV s ((n : Int) + 1) ((300 : Nat) : Int) := rfl
    rw [left_of s n hle, e3, rest_of s n 300 hle] at hJ
    rw [rest_of s n k hle] at hF
    have EA := Lib.hid (left_of s n hle)
    have EB := Lib.hid (e3.trans (rest_of s n 300 hle))
    have EP := Lib.hid (rest_of s n k hle)
    have EL : Hid (lenV s = ⟨2, s.size, nos⟩) := Lib.hid (by unfold lenV; rw [if_neg hs])
    have ES : Hid (txtV s = ⟨3, 0, s⟩) := Lib.hid rfl
    have zj : (s.extract 0 (min n s.size)).size + (s.extract (min n s.size) (min n s.size + min 300 (s.size - min n s.size))).size ≤ 9223372036854775807 := by rw [size_ext (by omega) (by omega), size_ext (by omega) (by omega)]; omega
    generalize hA : s.extract 0 (min n s.size) = tA at *
    generalize hBt : s.extract (min n s.size) (min n s.size + min 300 (s.size - min n s.size)) = tB at *
    generalize hP : s.extract (min n s.size) (min n s.size + min k (s.size - min n s.size)) = tP at *
    have EJ : Hid (joinV tA tB = ⟨3, 0, s⟩) := Lib.hid hJ
    have EF : Hid (findV tP s 1 = ⟨2, (m : Int) + 1, nos⟩) := Lib.hid hF
    have EA : Hid (leftV s n = ⟨3, 0, tA⟩) := Lib.hid EA.out
    have EB : Hid (midV s ((n : Int) + 1) 300 = ⟨3, 0, tB⟩) := Lib.hid EB.out
    have EP : Hid (midV s ((n : Int) + 1) k = ⟨3, 0, tP⟩) := Lib.hid EP.out
    clear hA hBt hP hJ hF e3
    have r1 : (1 : Int) ≤ (m : Int) + 1 := by omega
    have r2 : (m : Int) + 1 ≤ (n : Int) + 1 := by omega
    by_cases hm : n ≤ s.size
    · have m0 : (0 : Int) ≤ (s.size : Int) - (n : Int) := by omega
      have ER : Hid (rightV s n = ⟨3, 0, (rightV s n).s⟩) := Lib.hid (by rw [right_of s n hle]; rfl)
      have ED : Hid (leftV s ((s.size : Int) - n) = ⟨3, 0, (leftV s ((s.size : Int) - n)).s⟩) := Lib.hid (by rw [show ((s.size : Int) - n) = ((s.size - n : Nat) : Int) from by omega, left_of s _ hle]; rfl)
      have EC := whole_right s n hle hm
      generalize (rightV s n).s = tC at *
      generalize (leftV s ((s.size : Int) - n)).s = tD at *
      have zc : ¬ 9223372036854775807 < tD.size + tC.size := by rw [← ByteArray.size_append, EC]; omega
      have bc : ((tD ++ tC).toList == s.toList) = true := by rw [EC]; exact beq_self_eq_true _
      clear EC
      go_enter Try.func6, Try.ntmps6
      go_wp2_with fail
      refine (cLeft s n _).mono ?_; rw [EA.out]; rintro e x37 ⟨rfl, hb37⟩
      replace B := B.trans (hb37.mono B.size)
      replace hM := cell_later hb37 hM
      have ga : Below x37.heap.size x37 (x37.alloc (.cells #[.int .i64 3, .int .i64 0, .string tA] 25)) := grown
      replace B := B.trans (ga.mono B.size)
      replace hM := cell_later ga hM
      have a0 : (x37.alloc (.cells #[.int .i64 3, .int .i64 0, .string tA] 25)).cell? ⟨x37.heap.size, 0, none⟩ = some (.int .i64 3) := by simp [go_sem]
      have a1 : (x37.alloc (.cells #[.int .i64 3, .int .i64 0, .string tA] 25)).cell? ⟨x37.heap.size, 1, none⟩ = some (.int .i64 0) := by simp [go_sem]
      have a2 : (x37.alloc (.cells #[.int .i64 3, .int .i64 0, .string tA] 25)).cell? ⟨x37.heap.size, 2, none⟩ = some (.string tA) := by simp [go_sem]
      go_wp2_with fail
      refine (cMid s ((n : Int) + 1) 300 _ (by omega)).mono ?_; rw [EB.out]; rintro e x38 ⟨rfl, hb38⟩
      replace B := B.trans (hb38.mono B.size)
      replace hM := cell_later hb38 hM
      replace a0 := cell_later hb38 a0
      replace a1 := cell_later hb38 a1
      replace a2 := cell_later hb38 a2
      have gb : Below x38.heap.size x38 (x38.alloc (.cells #[.int .i64 3, .int .i64 0, .string tB] 25)) := grown
      replace B := B.trans (gb.mono B.size)
      replace hM := cell_later gb hM
      replace a0 := cell_later gb a0
      replace a1 := cell_later gb a1
      replace a2 := cell_later gb a2
      have b0 : (x38.alloc (.cells #[.int .i64 3, .int .i64 0, .string tB] 25)).cell? ⟨x38.heap.size, 0, none⟩ = some (.int .i64 3) := by simp [go_sem]
      have b1 : (x38.alloc (.cells #[.int .i64 3, .int .i64 0, .string tB] 25)).cell? ⟨x38.heap.size, 1, none⟩ = some (.int .i64 0) := by simp [go_sem]
      have b2 : (x38.alloc (.cells #[.int .i64 3, .int .i64 0, .string tB] 25)).cell? ⟨x38.heap.size, 2, none⟩ = some (.string tB) := by simp [go_sem]
      go_wp2_with fail
      refine (cJoin tA tB _ zj).mono ?_; rw [EJ.out]; rintro e x39 ⟨rfl, hb39⟩
      replace B := B.trans (hb39.mono B.size)
      replace hM := cell_later hb39 hM
      replace a0 := cell_later hb39 a0
      replace a1 := cell_later hb39 a1
      replace a2 := cell_later hb39 a2
      replace b0 := cell_later hb39 b0
      replace b1 := cell_later hb39 b1
      replace b2 := cell_later hb39 b2
      go_wp2_with fail
      refine (cstr s _).mono ?_; rw [ES.out]; rintro e x40 ⟨rfl, hb40⟩
      replace B := B.trans (hb40.mono B.size)
      replace hM := cell_later hb40 hM
      replace a0 := cell_later hb40 a0
      replace a1 := cell_later hb40 a1
      replace a2 := cell_later hb40 a2
      replace b0 := cell_later hb40 b0
      replace b1 := cell_later hb40 b1
      replace b2 := cell_later hb40 b2
      go_wp2_with fail
      refine (keep_self ⟨3, 0, s⟩ _).mono ?_; rintro e x41 ⟨rfl, hb41⟩
      replace B := B.trans (hb41.mono B.size)
      replace hM := cell_later hb41 hM
      replace a0 := cell_later hb41 a0
      replace a1 := cell_later hb41 a1
      replace a2 := cell_later hb41 a2
      replace b0 := cell_later hb41 b0
      replace b1 := cell_later hb41 b1
      replace b2 := cell_later hb41 b2
      go_wp2_with fail
      refine (cLen s _).mono ?_; rw [EL.out]; rintro e x42 ⟨rfl, hb42⟩
      replace B := B.trans (hb42.mono B.size)
      replace hM := cell_later hb42 hM
      replace a0 := cell_later hb42 a0
      replace a1 := cell_later hb42 a1
      replace a2 := cell_later hb42 a2
      replace b0 := cell_later hb42 b0
      replace b1 := cell_later hb42 b1
      replace b2 := cell_later hb42 b2
      go_wp2_with fail
      refine (cRight s n _).mono ?_; rw [ER.out]; rintro e x43 ⟨rfl, hb43⟩
      replace B := B.trans (hb43.mono B.size)
      replace hM := cell_later hb43 hM
      replace a0 := cell_later hb43 a0
      replace a1 := cell_later hb43 a1
      replace a2 := cell_later hb43 a2
      replace b0 := cell_later hb43 b0
      replace b1 := cell_later hb43 b1
      replace b2 := cell_later hb43 b2
      go_wp2_with fail
      refine (cLeft s ((s.size : Int) - n) _).mono ?_; rw [ED.out]; rintro e x44 ⟨rfl, hb44⟩
      replace B := B.trans (hb44.mono B.size)
      replace hM := cell_later hb44 hM
      replace a0 := cell_later hb44 a0
      replace a1 := cell_later hb44 a1
      replace a2 := cell_later hb44 a2
      replace b0 := cell_later hb44 b0
      replace b1 := cell_later hb44 b1
      replace b2 := cell_later hb44 b2
      go_wp2_with fail
      refine (cRight s n _).mono ?_; rw [ER.out]; rintro e x45 ⟨rfl, hb45⟩
      replace B := B.trans (hb45.mono B.size)
      replace hM := cell_later hb45 hM
      replace a0 := cell_later hb45 a0
      replace a1 := cell_later hb45 a1
      replace a2 := cell_later hb45 a2
      replace b0 := cell_later hb45 b0
      replace b1 := cell_later hb45 b1
      replace b2 := cell_later hb45 b2
      go_wp2_with fail
      refine (cMid s ((n : Int) + 1) k _ (by omega)).mono ?_; rw [EP.out]; rintro e x46 ⟨rfl, hb46⟩
      replace B := B.trans (hb46.mono B.size)
      replace hM := cell_later hb46 hM
      replace a0 := cell_later hb46 a0
      replace a1 := cell_later hb46 a1
      replace a2 := cell_later hb46 a2
      replace b0 := cell_later hb46 b0
      replace b1 := cell_later hb46 b1
      replace b2 := cell_later hb46 b2
      have gp : Below x46.heap.size x46 (x46.alloc (.cells #[.int .i64 3, .int .i64 0, .string tP] 25)) := grown
      replace B := B.trans (gp.mono B.size)
      replace hM := cell_later gp hM
      replace a0 := cell_later gp a0
      replace a1 := cell_later gp a1
      replace a2 := cell_later gp a2
      replace b0 := cell_later gp b0
      replace b1 := cell_later gp b1
      replace b2 := cell_later gp b2
      have p0 : (x46.alloc (.cells #[.int .i64 3, .int .i64 0, .string tP] 25)).cell? ⟨x46.heap.size, 0, none⟩ = some (.int .i64 3) := by simp [go_sem]
      have p1 : (x46.alloc (.cells #[.int .i64 3, .int .i64 0, .string tP] 25)).cell? ⟨x46.heap.size, 1, none⟩ = some (.int .i64 0) := by simp [go_sem]
      have p2 : (x46.alloc (.cells #[.int .i64 3, .int .i64 0, .string tP] 25)).cell? ⟨x46.heap.size, 2, none⟩ = some (.string tP) := by simp [go_sem]
      go_wp2_with fail
      refine (cFind tP s 1 _ (by decide) hM).mono ?_; rw [EF.out]; rintro e x47 ⟨rfl, hb47⟩
      replace B := B.trans (hb47.mono B.size)
      replace hM := cell_later hb47 hM
      replace a0 := cell_later hb47 a0
      replace a1 := cell_later hb47 a1
      replace a2 := cell_later hb47 a2
      replace b0 := cell_later hb47 b0
      replace b1 := cell_later hb47 b1
      replace b2 := cell_later hb47 b2
      replace p0 := cell_later hb47 p0
      replace p1 := cell_later hb47 p1
      replace p2 := cell_later hb47 p2
      have gf : Below x47.heap.size x47 (x47.alloc (.cells #[.int .i64 2, .int .i64 ((m : Int) + 1), .string nos] 25)) := grown
      replace B := B.trans (gf.mono B.size)
      replace hM := cell_later gf hM
      replace a0 := cell_later gf a0
      replace a1 := cell_later gf a1
      replace a2 := cell_later gf a2
      replace b0 := cell_later gf b0
      replace b1 := cell_later gf b1
      replace b2 := cell_later gf b2
      replace p0 := cell_later gf p0
      replace p1 := cell_later gf p1
      replace p2 := cell_later gf p2
      have f0 : (x47.alloc (.cells #[.int .i64 2, .int .i64 ((m : Int) + 1), .string nos] 25)).cell? ⟨x47.heap.size, 0, none⟩ = some (.int .i64 2) := by simp [go_sem]
      have f1 : (x47.alloc (.cells #[.int .i64 2, .int .i64 ((m : Int) + 1), .string nos] 25)).cell? ⟨x47.heap.size, 1, none⟩ = some (.int .i64 ((m : Int) + 1)) := by simp [go_sem]
      have f2 : (x47.alloc (.cells #[.int .i64 2, .int .i64 ((m : Int) + 1), .string nos] 25)).cell? ⟨x47.heap.size, 2, none⟩ = some (.string nos) := by simp [go_sem]
      go_wp2_with fail
      refine (cwakes9 _ hM).mono ?_; rintro e x48 ⟨rfl, hb48⟩
      replace B := B.trans (hb48.mono B.size)
      replace hM := cell_later hb48 hM
      replace a0 := cell_later hb48 a0
      replace a1 := cell_later hb48 a1
      replace a2 := cell_later hb48 a2
      replace b0 := cell_later hb48 b0
      replace b1 := cell_later hb48 b1
      replace b2 := cell_later hb48 b2
      replace p0 := cell_later hb48 p0
      replace p1 := cell_later hb48 p1
      replace p2 := cell_later hb48 p2
      replace f0 := cell_later hb48 f0
      replace f1 := cell_later hb48 f1
      replace f2 := cell_later hb48 f2
      go_wp2
      go_ret
      exact ⟨ret1 rfl, B⟩
    · have m0 : ¬ (0 : Int) ≤ (s.size : Int) - (n : Int) := by omega
      go_enter Try.func6, Try.ntmps6
      go_wp2_with fail
      refine (cLeft s n _).mono ?_; rw [EA.out]; rintro e x49 ⟨rfl, hb49⟩
      replace B := B.trans (hb49.mono B.size)
      replace hM := cell_later hb49 hM
      have ga : Below x49.heap.size x49 (x49.alloc (.cells #[.int .i64 3, .int .i64 0, .string tA] 25)) := grown
      replace B := B.trans (ga.mono B.size)
      replace hM := cell_later ga hM
      have a0 : (x49.alloc (.cells #[.int .i64 3, .int .i64 0, .string tA] 25)).cell? ⟨x49.heap.size, 0, none⟩ = some (.int .i64 3) := by simp [go_sem]
      have a1 : (x49.alloc (.cells #[.int .i64 3, .int .i64 0, .string tA] 25)).cell? ⟨x49.heap.size, 1, none⟩ = some (.int .i64 0) := by simp [go_sem]
      have a2 : (x49.alloc (.cells #[.int .i64 3, .int .i64 0, .string tA] 25)).cell? ⟨x49.heap.size, 2, none⟩ = some (.string tA) := by simp [go_sem]
      go_wp2_with fail
      refine (cMid s ((n : Int) + 1) 300 _ (by omega)).mono ?_; rw [EB.out]; rintro e x50 ⟨rfl, hb50⟩
      replace B := B.trans (hb50.mono B.size)
      replace hM := cell_later hb50 hM
      replace a0 := cell_later hb50 a0
      replace a1 := cell_later hb50 a1
      replace a2 := cell_later hb50 a2
      have gb : Below x50.heap.size x50 (x50.alloc (.cells #[.int .i64 3, .int .i64 0, .string tB] 25)) := grown
      replace B := B.trans (gb.mono B.size)
      replace hM := cell_later gb hM
      replace a0 := cell_later gb a0
      replace a1 := cell_later gb a1
      replace a2 := cell_later gb a2
      have b0 : (x50.alloc (.cells #[.int .i64 3, .int .i64 0, .string tB] 25)).cell? ⟨x50.heap.size, 0, none⟩ = some (.int .i64 3) := by simp [go_sem]
      have b1 : (x50.alloc (.cells #[.int .i64 3, .int .i64 0, .string tB] 25)).cell? ⟨x50.heap.size, 1, none⟩ = some (.int .i64 0) := by simp [go_sem]
      have b2 : (x50.alloc (.cells #[.int .i64 3, .int .i64 0, .string tB] 25)).cell? ⟨x50.heap.size, 2, none⟩ = some (.string tB) := by simp [go_sem]
      go_wp2_with fail
      refine (cJoin tA tB _ zj).mono ?_; rw [EJ.out]; rintro e x51 ⟨rfl, hb51⟩
      replace B := B.trans (hb51.mono B.size)
      replace hM := cell_later hb51 hM
      replace a0 := cell_later hb51 a0
      replace a1 := cell_later hb51 a1
      replace a2 := cell_later hb51 a2
      replace b0 := cell_later hb51 b0
      replace b1 := cell_later hb51 b1
      replace b2 := cell_later hb51 b2
      go_wp2_with fail
      refine (cstr s _).mono ?_; rw [ES.out]; rintro e x52 ⟨rfl, hb52⟩
      replace B := B.trans (hb52.mono B.size)
      replace hM := cell_later hb52 hM
      replace a0 := cell_later hb52 a0
      replace a1 := cell_later hb52 a1
      replace a2 := cell_later hb52 a2
      replace b0 := cell_later hb52 b0
      replace b1 := cell_later hb52 b1
      replace b2 := cell_later hb52 b2
      go_wp2_with fail
      refine (keep_self ⟨3, 0, s⟩ _).mono ?_; rintro e x53 ⟨rfl, hb53⟩
      replace B := B.trans (hb53.mono B.size)
      replace hM := cell_later hb53 hM
      replace a0 := cell_later hb53 a0
      replace a1 := cell_later hb53 a1
      replace a2 := cell_later hb53 a2
      replace b0 := cell_later hb53 b0
      replace b1 := cell_later hb53 b1
      replace b2 := cell_later hb53 b2
      go_wp2_with fail
      refine (cLen s _).mono ?_; rw [EL.out]; rintro e x54 ⟨rfl, hb54⟩
      replace B := B.trans (hb54.mono B.size)
      replace hM := cell_later hb54 hM
      replace a0 := cell_later hb54 a0
      replace a1 := cell_later hb54 a1
      replace a2 := cell_later hb54 a2
      replace b0 := cell_later hb54 b0
      replace b1 := cell_later hb54 b1
      replace b2 := cell_later hb54 b2
      go_wp2_with fail
      refine (cMid s ((n : Int) + 1) k _ (by omega)).mono ?_; rw [EP.out]; rintro e x55 ⟨rfl, hb55⟩
      replace B := B.trans (hb55.mono B.size)
      replace hM := cell_later hb55 hM
      replace a0 := cell_later hb55 a0
      replace a1 := cell_later hb55 a1
      replace a2 := cell_later hb55 a2
      replace b0 := cell_later hb55 b0
      replace b1 := cell_later hb55 b1
      replace b2 := cell_later hb55 b2
      have gp : Below x55.heap.size x55 (x55.alloc (.cells #[.int .i64 3, .int .i64 0, .string tP] 25)) := grown
      replace B := B.trans (gp.mono B.size)
      replace hM := cell_later gp hM
      replace a0 := cell_later gp a0
      replace a1 := cell_later gp a1
      replace a2 := cell_later gp a2
      replace b0 := cell_later gp b0
      replace b1 := cell_later gp b1
      replace b2 := cell_later gp b2
      have p0 : (x55.alloc (.cells #[.int .i64 3, .int .i64 0, .string tP] 25)).cell? ⟨x55.heap.size, 0, none⟩ = some (.int .i64 3) := by simp [go_sem]
      have p1 : (x55.alloc (.cells #[.int .i64 3, .int .i64 0, .string tP] 25)).cell? ⟨x55.heap.size, 1, none⟩ = some (.int .i64 0) := by simp [go_sem]
      have p2 : (x55.alloc (.cells #[.int .i64 3, .int .i64 0, .string tP] 25)).cell? ⟨x55.heap.size, 2, none⟩ = some (.string tP) := by simp [go_sem]
      go_wp2_with fail
      refine (cFind tP s 1 _ (by decide) hM).mono ?_; rw [EF.out]; rintro e x56 ⟨rfl, hb56⟩
      replace B := B.trans (hb56.mono B.size)
      replace hM := cell_later hb56 hM
      replace a0 := cell_later hb56 a0
      replace a1 := cell_later hb56 a1
      replace a2 := cell_later hb56 a2
      replace b0 := cell_later hb56 b0
      replace b1 := cell_later hb56 b1
      replace b2 := cell_later hb56 b2
      replace p0 := cell_later hb56 p0
      replace p1 := cell_later hb56 p1
      replace p2 := cell_later hb56 p2
      have gf : Below x56.heap.size x56 (x56.alloc (.cells #[.int .i64 2, .int .i64 ((m : Int) + 1), .string nos] 25)) := grown
      replace B := B.trans (gf.mono B.size)
      replace hM := cell_later gf hM
      replace a0 := cell_later gf a0
      replace a1 := cell_later gf a1
      replace a2 := cell_later gf a2
      replace b0 := cell_later gf b0
      replace b1 := cell_later gf b1
      replace b2 := cell_later gf b2
      replace p0 := cell_later gf p0
      replace p1 := cell_later gf p1
      replace p2 := cell_later gf p2
      have f0 : (x56.alloc (.cells #[.int .i64 2, .int .i64 ((m : Int) + 1), .string nos] 25)).cell? ⟨x56.heap.size, 0, none⟩ = some (.int .i64 2) := by simp [go_sem]
      have f1 : (x56.alloc (.cells #[.int .i64 2, .int .i64 ((m : Int) + 1), .string nos] 25)).cell? ⟨x56.heap.size, 1, none⟩ = some (.int .i64 ((m : Int) + 1)) := by simp [go_sem]
      have f2 : (x56.alloc (.cells #[.int .i64 2, .int .i64 ((m : Int) + 1), .string nos] 25)).cell? ⟨x56.heap.size, 2, none⟩ = some (.string nos) := by simp [go_sem]
      go_wp2_with fail
      refine (cwakes9 _ hM).mono ?_; rintro e x57 ⟨rfl, hb57⟩
      replace B := B.trans (hb57.mono B.size)
      replace hM := cell_later hb57 hM
      replace a0 := cell_later hb57 a0
      replace a1 := cell_later hb57 a1
      replace a2 := cell_later hb57 a2
      replace b0 := cell_later hb57 b0
      replace b1 := cell_later hb57 b1
      replace b2 := cell_later hb57 b2
      replace p0 := cell_later hb57 p0
      replace p1 := cell_later hb57 p1
      replace p2 := cell_later hb57 p2
      replace f0 := cell_later hb57 f0
      replace f1 := cell_later hb57 f1
      replace f2 := cell_later hb57 f2
      go_wp2
      go_ret
      exact ⟨ret1 rfl, B⟩
theorem textWholeI (s : ByteArray) (n k : Int) (w : World) (hn : 0 ≤ n ∧ n ≤ 255) (hk : 0 ≤ k ∧ k ≤ 255) {mx : Int} (hM : MaxIs w mx) : Calls Try.prog 6 #[.string s, .int .u8 n, .int .u8 k] w fun e w' => e = .returned (.bool true) ∧ Below w.heap.size w w' := by
  obtain ⟨x, rfl⟩ := Int.eq_ofNat_of_zero_le hn.1
  obtain ⟨y, rfl⟩ := Int.eq_ofNat_of_zero_le hk.1
  exact textWhole s x y w (by omega) (by omega) hM
end Go.Proofs.Ytgkabngpekokaaa.TextC
