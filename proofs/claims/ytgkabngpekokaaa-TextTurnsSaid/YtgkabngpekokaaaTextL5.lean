/-
  The walk of the statement TextTurns.
-/
import Derived.Test.YtgkabngpekokaaaTextW
namespace Go.Proofs.Ytgkabngpekokaaa.TextC
set_option linter.unusedVariables false
set_option linter.unusedSimpArgs false
open Go.RowKit Go.Proofs.Ytgkabngpekokaaa.NumC
open Go.Proofs.Ytgkabngpekokaaa.ValueC (Val failV failV_yes ofV nos rfail rof sameB keepValue)

open Go.Proofs.Ytgkabngpekokaaa.LexC (upC upL str)
theorem grown_t {w : World} {o : Obj} : Below w.heap.size w (w.alloc o) := (Below.refl _ _).alloc (Nat.le_refl _) _
theorem upper_of {s : ByteArray} (h : s.size ≤ 200) : upperV s = ⟨3, 0, str (upL s.data.toList)⟩ := by unfold upperV; rw [if_neg (by omega)]; rfl
theorem lower_of {s : ByteArray} (h : s.size ≤ 200) : lowerV s = ⟨3, 0, str (loL s.data.toList)⟩ := by unfold lowerV; rw [if_neg (by omega)]; rfl
theorem rep_long {s : ByteArray} {n : Nat} (h : s.size ≤ 200) (hg : 200 < s.size * n) : repeatV s n = ⟨4, 7, nos⟩ := by
  unfold repeatV
  rw [if_neg (by omega), if_neg (by omega), if_neg (by intro e; rw [e, Nat.zero_mul] at hg; omega)]
  by_cases h2 : (200 : Int) < (n : Int)
  · rw [if_pos h2]; rfl
  · rw [if_neg h2, Int.toNat_natCast]
    unfold ofV
    rw [if_pos (by rw [rep_size]; exact hg)]
    first | done | rfl | exact failV_yes (by omega)
theorem rep_none {s : ByteArray} (h : s.size = 0) : ∀ n, repS s n = nos
  | 0 => rfl
  | n + 1 => by
    have e : s = nos := ByteArray.ext (Array.eq_empty_of_size_eq_zero h)
    subst e
    show repS nos n ++ nos = nos
    rw [rep_none rfl n]; rfl
theorem rep_short {s : ByteArray} {n : Nat} (h : s.size ≤ 200) (hg : ¬ 200 < s.size * n) : repeatV s n = ⟨3, 0, repS s n⟩ := by
  unfold repeatV
  rw [if_neg (by omega), if_neg (by omega)]
  by_cases h0 : s.size = 0
  · rw [if_pos h0, rep_none h0]; rfl
  · have h2 : n ≤ s.size * n := Nat.le_mul_of_pos_left n (by omega)
    rw [if_neg h0, if_neg (by omega), Int.toNat_natCast, ofV_small (by rw [rep_size]; omega)]; rfl
theorem rep_left {s : ByteArray} {n : Nat} (h0 : 0 < n) (hg : ¬ 200 < s.size * n) : leftV (repS s n) s.size = ⟨3, 0, s⟩ := by
  have h2 : s.size ≤ s.size * n := Nat.le_mul_of_pos_right _ h0
  rw [left_of _ _ (by rw [rep_size]; omega), Nat.min_eq_left (by rw [rep_size]; exact h2), rep_front s n h0]; rfl
theorem rep_right {s : ByteArray} {n : Nat} (h0 : 0 < n) (hg : ¬ 200 < s.size * n) : rightV (repS s n) s.size = ⟨3, 0, s⟩ := by
  have h2 : s.size ≤ s.size * n := Nat.le_mul_of_pos_right _ h0
  rw [right_of _ _ (by rw [rep_size]; omega), Nat.min_eq_left (by rw [rep_size]; exact h2), rep_back s n h0]; rfl
set_option maxHeartbeats 1000000 in
set_option maxRecDepth 100000 in
theorem textTurns (s : ByteArray) (n : Nat) (w : World) (hn : n ≤ 255) {mx : Int} (hM : MaxIs w mx) : Calls Try.prog 7 #[.string s, .int .u8 n] w fun e w' => e = .returned (.bool true) ∧ Below w.heap.size w w' := by
  have B := Below.refl w.heap.size w
  by_cases hs : 200 < s.size
  · have hs2 : (200 : Int) < (s.size : Int) := by omega
    go_enter Try.func7, Try.ntmps7
    go_wp2_with fail
    refine (cwakes9 _ hM).mono ?_; rintro e x58 ⟨rfl, hb58⟩
    replace B := B.trans (hb58.mono B.size)
    replace hM := cell_later hb58 hM
    go_wp2
    go_ret
    exact ⟨ret1 rfl, B⟩
  · have hs2 : ¬ (200 : Int) < (s.size : Int) := by omega
    have hle : s.size ≤ 200 := by omega
    have q0 := field0
    have q1 := field1
    have q2 := field2
    have EU := Lib.hid (upper_of hle)
    have EL := Lib.hid (lower_of hle)
    have su := up_size s
    have sl := lo_size s
    have EUL := upper_of (s := str (loL s.data.toList)) (by omega)
    have ELU := lower_of (s := str (upL s.data.toList)) (by omega)
    rw [str_list, upL_loL] at EUL
    rw [str_list, loL_upL] at ELU
    generalize str (upL s.data.toList) = tU at *
    generalize str (loL s.data.toList) = tL at *
    have FUL := Lib.hid EUL
    have FLU := Lib.hid ELU
    have bz : ((tU.size : Int) == (s.size : Int)) = true := by rw [su]; exact beq_self_eq_true _
    have bU : (tU.toList == tU.toList) = true := beq_self_eq_true _
    have bL : (tL.toList == tL.toList) = true := beq_self_eq_true _
    clear EUL ELU sl
    have hp : s.size * n ≤ 200 * 255 := Nat.mul_le_mul hle hn
    have hpi : (s.size : Int) * (n : Int) = ((s.size * n : Nat) : Int) := (Int.natCast_mul ..).symm
    have pw : IntKind.i64.wrap ((s.size : Int) * (n : Int)) = ((s.size * n : Nat) : Int) := by rw [hpi, IntKind.wrap_i64]; omega
    have pw2 : wrap64 ((s.size : Int) * (n : Int)) = ((s.size * n : Nat) : Int) := by rw [hpi]; unfold wrap64; omega
    by_cases hg : 200 < s.size * n
    · have hgi : (200 : Int) < ((s.size * n : Nat) : Int) := by omega
      have ER := Lib.hid (rep_long hle hg)
      generalize hc : s.size * n = c at *
      go_enter Try.func7, Try.ntmps7
      go_wp2_with fail
      refine (cUpper s _).mono ?_; rw [EU.out]; rintro e x59 ⟨rfl, hb59⟩
      replace B := B.trans (hb59.mono B.size)
      replace hM := cell_later hb59 hM
      go_wp2_with fail
      refine (cLower s _).mono ?_; rw [EL.out]; rintro e x60 ⟨rfl, hb60⟩
      replace B := B.trans (hb60.mono B.size)
      replace hM := cell_later hb60 hM
      have ga : Below x60.heap.size x60 (x60.alloc (.cells #[.int .i64 3, .int .i64 0, .string tU] 25)) := grown_t
      replace B := B.trans (ga.mono B.size)
      replace hM := cell_later ga hM
      have a0 : (x60.alloc (.cells #[.int .i64 3, .int .i64 0, .string tU] 25)).cell? ⟨x60.heap.size, 0, none⟩ = some (.int .i64 3) := by simp [go_sem]
      have a1 : (x60.alloc (.cells #[.int .i64 3, .int .i64 0, .string tU] 25)).cell? ⟨x60.heap.size, 1, none⟩ = some (.int .i64 0) := by simp [go_sem]
      have a2 : (x60.alloc (.cells #[.int .i64 3, .int .i64 0, .string tU] 25)).cell? ⟨x60.heap.size, 2, none⟩ = some (.string tU) := by simp [go_sem]
      have gb : Below (x60.alloc (.cells #[.int .i64 3, .int .i64 0, .string tU] 25)).heap.size (x60.alloc (.cells #[.int .i64 3, .int .i64 0, .string tU] 25)) ((x60.alloc (.cells #[.int .i64 3, .int .i64 0, .string tU] 25)).alloc (.cells #[.int .i64 3, .int .i64 0, .string tL] 25)) := grown_t
      replace B := B.trans (gb.mono B.size)
      replace hM := cell_later gb hM
      replace a0 := cell_later gb a0
      replace a1 := cell_later gb a1
      replace a2 := cell_later gb a2
      have b0 : ((x60.alloc (.cells #[.int .i64 3, .int .i64 0, .string tU] 25)).alloc (.cells #[.int .i64 3, .int .i64 0, .string tL] 25)).cell? ⟨x60.heap.size + 1, 0, none⟩ = some (.int .i64 3) := by simp [go_sem]
      have b1 : ((x60.alloc (.cells #[.int .i64 3, .int .i64 0, .string tU] 25)).alloc (.cells #[.int .i64 3, .int .i64 0, .string tL] 25)).cell? ⟨x60.heap.size + 1, 1, none⟩ = some (.int .i64 0) := by simp [go_sem]
      have b2 : ((x60.alloc (.cells #[.int .i64 3, .int .i64 0, .string tU] 25)).alloc (.cells #[.int .i64 3, .int .i64 0, .string tL] 25)).cell? ⟨x60.heap.size + 1, 2, none⟩ = some (.string tL) := by simp [go_sem]
      go_wp2_with fail
      generalize hW : ((x60.alloc (.cells #[.int .i64 3, .int .i64 0, .string tU] 25)).alloc (.cells #[.int .i64 3, .int .i64 0, .string tL] 25)) = W3 at *
      replace B : Below w.heap.size w W3 := B
      clear hW ga gb
      have H1 : Hid (∀ u : Gr W3, Calls Try.prog 18 #[.string tL] u.now fun e w' => e = .returned (.agg #[.int .i64 3, .int .i64 0, .string tU]) ∧ Below u.now.heap.size u.now w') := Lib.hid (fun u => by have := cUpper tL u.now; rw [FUL.out] at this; exact this)
      have H2 : Hid (∀ u : Gr W3, Calls Try.prog 20 #[.string tU] u.now fun e w' => e = .returned (.agg #[.int .i64 3, .int .i64 0, .string tL]) ∧ Below u.now.heap.size u.now w') := Lib.hid (fun u => by have := cLower tU u.now; rw [FLU.out] at this; exact this)
      replace a0 := Gr.cell _ _ _ (Below.refl _ _) a0
      replace a1 := Gr.cell _ _ _ (Below.refl _ _) a1
      replace a2 := Gr.cell _ _ _ (Below.refl _ _) a2
      replace b0 := Gr.cell _ _ _ (Below.refl _ _) b0
      replace b1 := Gr.cell _ _ _ (Below.refl _ _) b1
      replace b2 := Gr.cell _ _ _ (Below.refl _ _) b2
      refine region_grown (by kernel_rfl) (by kernel_rfl) ?_
      repeat (go_big_quiet_step (first
        | (go_at_call 18; exact grown_of (H1.out _))
        | (go_at_call 20; exact grown_of (H2.out _))))
      refine wpQuiet_nil ?_
      intro w6 hw6; obtain ⟨u, rfl⟩ := hw6
      replace B := B.trans (u.below.mono B.size)
      replace hM := cell_later u.below hM
      clear H1 H2 a0 a1 a2 b0 b1 b2
      go_wp2_with fail
      refine (cRepeat s n _ (by omega)).mono ?_; rw [ER.out]; rintro e x61 ⟨rfl, hb61⟩
      replace B := B.trans (hb61.mono B.size)
      replace hM := cell_later hb61 hM
      have gr : Below x61.heap.size x61 (x61.alloc (.cells #[.int .i64 4, .int .i64 7, .string nos] 25)) := grown_t
      replace B := B.trans (gr.mono B.size)
      replace hM := cell_later gr hM
      have r0 : (x61.alloc (.cells #[.int .i64 4, .int .i64 7, .string nos] 25)).cell? ⟨x61.heap.size, 0, none⟩ = some (.int .i64 4) := by simp [go_sem]
      have r1 : (x61.alloc (.cells #[.int .i64 4, .int .i64 7, .string nos] 25)).cell? ⟨x61.heap.size, 1, none⟩ = some (.int .i64 7) := by simp [go_sem]
      have r2 : (x61.alloc (.cells #[.int .i64 4, .int .i64 7, .string nos] 25)).cell? ⟨x61.heap.size, 2, none⟩ = some (.string nos) := by simp [go_sem]
      go_wp2_with fail
      refine (cwakes9 _ hM).mono ?_; rintro e x62 ⟨rfl, hb62⟩
      replace B := B.trans (hb62.mono B.size)
      replace hM := cell_later hb62 hM
      replace r0 := cell_later hb62 r0
      replace r1 := cell_later hb62 r1
      replace r2 := cell_later hb62 r2
      go_wp2
      go_ret
      exact ⟨ret1 rfl, B⟩
    · have hgi : ¬ (200 : Int) < ((s.size * n : Nat) : Int) := by omega
      have ER := Lib.hid (rep_short hle hg)
      have bR : (((repS s n).size : Int) == ((s.size * n : Nat) : Int)) = true := by rw [rep_size]; exact beq_self_eq_true _
      have bs : (s.toList == s.toList) = true := beq_self_eq_true _
      by_cases h0 : 0 < n
      · have RL := Lib.hid (rep_left h0 hg)
        have RR := Lib.hid (rep_right h0 hg)
        have bn : ((n : Int) == 0) = false := beq_eq_false_iff_ne.mpr (by omega)
        clear hg
        generalize repS s n = tR at *
        generalize hc : s.size * n = c at *
        go_enter Try.func7, Try.ntmps7
        go_wp2_with fail
        refine (cUpper s _).mono ?_; rw [EU.out]; rintro e x63 ⟨rfl, hb63⟩
        replace B := B.trans (hb63.mono B.size)
        replace hM := cell_later hb63 hM
        go_wp2_with fail
        refine (cLower s _).mono ?_; rw [EL.out]; rintro e x64 ⟨rfl, hb64⟩
        replace B := B.trans (hb64.mono B.size)
        replace hM := cell_later hb64 hM
        have ga : Below x64.heap.size x64 (x64.alloc (.cells #[.int .i64 3, .int .i64 0, .string tU] 25)) := grown_t
        replace B := B.trans (ga.mono B.size)
        replace hM := cell_later ga hM
        have a0 : (x64.alloc (.cells #[.int .i64 3, .int .i64 0, .string tU] 25)).cell? ⟨x64.heap.size, 0, none⟩ = some (.int .i64 3) := by simp [go_sem]
        have a1 : (x64.alloc (.cells #[.int .i64 3, .int .i64 0, .string tU] 25)).cell? ⟨x64.heap.size, 1, none⟩ = some (.int .i64 0) := by simp [go_sem]
        have a2 : (x64.alloc (.cells #[.int .i64 3, .int .i64 0, .string tU] 25)).cell? ⟨x64.heap.size, 2, none⟩ = some (.string tU) := by simp [go_sem]
        have gb : Below (x64.alloc (.cells #[.int .i64 3, .int .i64 0, .string tU] 25)).heap.size (x64.alloc (.cells #[.int .i64 3, .int .i64 0, .string tU] 25)) ((x64.alloc (.cells #[.int .i64 3, .int .i64 0, .string tU] 25)).alloc (.cells #[.int .i64 3, .int .i64 0, .string tL] 25)) := grown_t
        replace B := B.trans (gb.mono B.size)
        replace hM := cell_later gb hM
        replace a0 := cell_later gb a0
        replace a1 := cell_later gb a1
        replace a2 := cell_later gb a2
        have b0 : ((x64.alloc (.cells #[.int .i64 3, .int .i64 0, .string tU] 25)).alloc (.cells #[.int .i64 3, .int .i64 0, .string tL] 25)).cell? ⟨x64.heap.size + 1, 0, none⟩ = some (.int .i64 3) := by simp [go_sem]
        have b1 : ((x64.alloc (.cells #[.int .i64 3, .int .i64 0, .string tU] 25)).alloc (.cells #[.int .i64 3, .int .i64 0, .string tL] 25)).cell? ⟨x64.heap.size + 1, 1, none⟩ = some (.int .i64 0) := by simp [go_sem]
        have b2 : ((x64.alloc (.cells #[.int .i64 3, .int .i64 0, .string tU] 25)).alloc (.cells #[.int .i64 3, .int .i64 0, .string tL] 25)).cell? ⟨x64.heap.size + 1, 2, none⟩ = some (.string tL) := by simp [go_sem]
        go_wp2_with fail
        generalize hW : ((x64.alloc (.cells #[.int .i64 3, .int .i64 0, .string tU] 25)).alloc (.cells #[.int .i64 3, .int .i64 0, .string tL] 25)) = W3 at *
        replace B : Below w.heap.size w W3 := B
        clear hW ga gb
        have H1 : Hid (∀ u : Gr W3, Calls Try.prog 18 #[.string tL] u.now fun e w' => e = .returned (.agg #[.int .i64 3, .int .i64 0, .string tU]) ∧ Below u.now.heap.size u.now w') := Lib.hid (fun u => by have := cUpper tL u.now; rw [FUL.out] at this; exact this)
        have H2 : Hid (∀ u : Gr W3, Calls Try.prog 20 #[.string tU] u.now fun e w' => e = .returned (.agg #[.int .i64 3, .int .i64 0, .string tL]) ∧ Below u.now.heap.size u.now w') := Lib.hid (fun u => by have := cLower tU u.now; rw [FLU.out] at this; exact this)
        replace a0 := Gr.cell _ _ _ (Below.refl _ _) a0
        replace a1 := Gr.cell _ _ _ (Below.refl _ _) a1
        replace a2 := Gr.cell _ _ _ (Below.refl _ _) a2
        replace b0 := Gr.cell _ _ _ (Below.refl _ _) b0
        replace b1 := Gr.cell _ _ _ (Below.refl _ _) b1
        replace b2 := Gr.cell _ _ _ (Below.refl _ _) b2
        refine region_grown (by kernel_rfl) (by kernel_rfl) ?_
        repeat (go_big_quiet_step (first
          | (go_at_call 18; exact grown_of (H1.out _))
          | (go_at_call 20; exact grown_of (H2.out _))))
        refine wpQuiet_nil ?_
        intro w6 hw6; obtain ⟨u, rfl⟩ := hw6
        replace B := B.trans (u.below.mono B.size)
        replace hM := cell_later u.below hM
        clear H1 H2 a0 a1 a2 b0 b1 b2
        go_wp2_with fail
        refine (cRepeat s n _ (by omega)).mono ?_; rw [ER.out]; rintro e x65 ⟨rfl, hb65⟩
        replace B := B.trans (hb65.mono B.size)
        replace hM := cell_later hb65 hM
        have gr : Below x65.heap.size x65 (x65.alloc (.cells #[.int .i64 3, .int .i64 0, .string tR] 25)) := grown_t
        replace B := B.trans (gr.mono B.size)
        replace hM := cell_later gr hM
        have r0 : (x65.alloc (.cells #[.int .i64 3, .int .i64 0, .string tR] 25)).cell? ⟨x65.heap.size, 0, none⟩ = some (.int .i64 3) := by simp [go_sem]
        have r1 : (x65.alloc (.cells #[.int .i64 3, .int .i64 0, .string tR] 25)).cell? ⟨x65.heap.size, 1, none⟩ = some (.int .i64 0) := by simp [go_sem]
        have r2 : (x65.alloc (.cells #[.int .i64 3, .int .i64 0, .string tR] 25)).cell? ⟨x65.heap.size, 2, none⟩ = some (.string tR) := by simp [go_sem]
        go_wp2_with fail
        refine (cLeft tR s.size _).mono ?_; rw [RL.out]; rintro e x66 ⟨rfl, hb66⟩
        replace B := B.trans (hb66.mono B.size)
        replace hM := cell_later hb66 hM
        replace r0 := cell_later hb66 r0
        replace r1 := cell_later hb66 r1
        replace r2 := cell_later hb66 r2
        go_wp2_with fail
        refine (cRight tR s.size _).mono ?_; rw [RR.out]; rintro e x67 ⟨rfl, hb67⟩
        replace B := B.trans (hb67.mono B.size)
        replace hM := cell_later hb67 hM
        replace r0 := cell_later hb67 r0
        replace r1 := cell_later hb67 r1
        replace r2 := cell_later hb67 r2
        go_wp2_with fail
        refine (cwakes9 _ hM).mono ?_; rintro e x68 ⟨rfl, hb68⟩
        replace B := B.trans (hb68.mono B.size)
        replace hM := cell_later hb68 hM
        replace r0 := cell_later hb68 r0
        replace r1 := cell_later hb68 r1
        replace r2 := cell_later hb68 r2
        go_wp2
        go_ret
        exact ⟨ret1 rfl, B⟩
      · have bn : ((n : Int) == 0) = true := beq_iff_eq.mpr (by omega)
        clear hg
        generalize repS s n = tR at *
        generalize hc : s.size * n = c at *
        go_enter Try.func7, Try.ntmps7
        go_wp2_with fail
        refine (cUpper s _).mono ?_; rw [EU.out]; rintro e x69 ⟨rfl, hb69⟩
        replace B := B.trans (hb69.mono B.size)
        replace hM := cell_later hb69 hM
        go_wp2_with fail
        refine (cLower s _).mono ?_; rw [EL.out]; rintro e x70 ⟨rfl, hb70⟩
        replace B := B.trans (hb70.mono B.size)
        replace hM := cell_later hb70 hM
        have ga : Below x70.heap.size x70 (x70.alloc (.cells #[.int .i64 3, .int .i64 0, .string tU] 25)) := grown_t
        replace B := B.trans (ga.mono B.size)
        replace hM := cell_later ga hM
        have a0 : (x70.alloc (.cells #[.int .i64 3, .int .i64 0, .string tU] 25)).cell? ⟨x70.heap.size, 0, none⟩ = some (.int .i64 3) := by simp [go_sem]
        have a1 : (x70.alloc (.cells #[.int .i64 3, .int .i64 0, .string tU] 25)).cell? ⟨x70.heap.size, 1, none⟩ = some (.int .i64 0) := by simp [go_sem]
        have a2 : (x70.alloc (.cells #[.int .i64 3, .int .i64 0, .string tU] 25)).cell? ⟨x70.heap.size, 2, none⟩ = some (.string tU) := by simp [go_sem]
        have gb : Below (x70.alloc (.cells #[.int .i64 3, .int .i64 0, .string tU] 25)).heap.size (x70.alloc (.cells #[.int .i64 3, .int .i64 0, .string tU] 25)) ((x70.alloc (.cells #[.int .i64 3, .int .i64 0, .string tU] 25)).alloc (.cells #[.int .i64 3, .int .i64 0, .string tL] 25)) := grown_t
        replace B := B.trans (gb.mono B.size)
        replace hM := cell_later gb hM
        replace a0 := cell_later gb a0
        replace a1 := cell_later gb a1
        replace a2 := cell_later gb a2
        have b0 : ((x70.alloc (.cells #[.int .i64 3, .int .i64 0, .string tU] 25)).alloc (.cells #[.int .i64 3, .int .i64 0, .string tL] 25)).cell? ⟨x70.heap.size + 1, 0, none⟩ = some (.int .i64 3) := by simp [go_sem]
        have b1 : ((x70.alloc (.cells #[.int .i64 3, .int .i64 0, .string tU] 25)).alloc (.cells #[.int .i64 3, .int .i64 0, .string tL] 25)).cell? ⟨x70.heap.size + 1, 1, none⟩ = some (.int .i64 0) := by simp [go_sem]
        have b2 : ((x70.alloc (.cells #[.int .i64 3, .int .i64 0, .string tU] 25)).alloc (.cells #[.int .i64 3, .int .i64 0, .string tL] 25)).cell? ⟨x70.heap.size + 1, 2, none⟩ = some (.string tL) := by simp [go_sem]
        go_wp2_with fail
        generalize hW : ((x70.alloc (.cells #[.int .i64 3, .int .i64 0, .string tU] 25)).alloc (.cells #[.int .i64 3, .int .i64 0, .string tL] 25)) = W3 at *
        replace B : Below w.heap.size w W3 := B
        clear hW ga gb
        have H1 : Hid (∀ u : Gr W3, Calls Try.prog 18 #[.string tL] u.now fun e w' => e = .returned (.agg #[.int .i64 3, .int .i64 0, .string tU]) ∧ Below u.now.heap.size u.now w') := Lib.hid (fun u => by have := cUpper tL u.now; rw [FUL.out] at this; exact this)
        have H2 : Hid (∀ u : Gr W3, Calls Try.prog 20 #[.string tU] u.now fun e w' => e = .returned (.agg #[.int .i64 3, .int .i64 0, .string tL]) ∧ Below u.now.heap.size u.now w') := Lib.hid (fun u => by have := cLower tU u.now; rw [FLU.out] at this; exact this)
        replace a0 := Gr.cell _ _ _ (Below.refl _ _) a0
        replace a1 := Gr.cell _ _ _ (Below.refl _ _) a1
        replace a2 := Gr.cell _ _ _ (Below.refl _ _) a2
        replace b0 := Gr.cell _ _ _ (Below.refl _ _) b0
        replace b1 := Gr.cell _ _ _ (Below.refl _ _) b1
        replace b2 := Gr.cell _ _ _ (Below.refl _ _) b2
        refine region_grown (by kernel_rfl) (by kernel_rfl) ?_
        repeat (go_big_quiet_step (first
          | (go_at_call 18; exact grown_of (H1.out _))
          | (go_at_call 20; exact grown_of (H2.out _))))
        refine wpQuiet_nil ?_
        intro w6 hw6; obtain ⟨u, rfl⟩ := hw6
        replace B := B.trans (u.below.mono B.size)
        replace hM := cell_later u.below hM
        clear H1 H2 a0 a1 a2 b0 b1 b2
        go_wp2_with fail
        refine (cRepeat s n _ (by omega)).mono ?_; rw [ER.out]; rintro e x71 ⟨rfl, hb71⟩
        replace B := B.trans (hb71.mono B.size)
        replace hM := cell_later hb71 hM
        have gr : Below x71.heap.size x71 (x71.alloc (.cells #[.int .i64 3, .int .i64 0, .string tR] 25)) := grown_t
        replace B := B.trans (gr.mono B.size)
        replace hM := cell_later gr hM
        have r0 : (x71.alloc (.cells #[.int .i64 3, .int .i64 0, .string tR] 25)).cell? ⟨x71.heap.size, 0, none⟩ = some (.int .i64 3) := by simp [go_sem]
        have r1 : (x71.alloc (.cells #[.int .i64 3, .int .i64 0, .string tR] 25)).cell? ⟨x71.heap.size, 1, none⟩ = some (.int .i64 0) := by simp [go_sem]
        have r2 : (x71.alloc (.cells #[.int .i64 3, .int .i64 0, .string tR] 25)).cell? ⟨x71.heap.size, 2, none⟩ = some (.string tR) := by simp [go_sem]
        go_wp2_with fail
        refine (cwakes9 _ hM).mono ?_; rintro e x72 ⟨rfl, hb72⟩
        replace B := B.trans (hb72.mono B.size)
        replace hM := cell_later hb72 hM
        replace r0 := cell_later hb72 r0
        replace r1 := cell_later hb72 r1
        replace r2 := cell_later hb72 r2
        go_wp2
        go_ret
        exact ⟨ret1 rfl, B⟩
theorem textTurnsI (s : ByteArray) (n : Int) (w : World) (hn : 0 ≤ n ∧ n ≤ 255) {mx : Int} (hM : MaxIs w mx) : Calls Try.prog 7 #[.string s, .int .u8 n] w fun e w' => e = .returned (.bool true) ∧ Below w.heap.size w w' := by
  obtain ⟨x, rfl⟩ := Int.eq_ofNat_of_zero_le hn.1
  exact textTurns s x w (by omega) hM
end Go.Proofs.Ytgkabngpekokaaa.TextC
