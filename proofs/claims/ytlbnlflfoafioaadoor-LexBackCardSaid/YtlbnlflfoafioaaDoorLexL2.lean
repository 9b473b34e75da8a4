/-
  The walk of the statement LexBack: for all arguments it answers true.
-/
import Derived.Test.YtlbnlflfoafioaaDoorLexL1
import Derived.Test.YtlbnlflfoafioaaDoorLexN
import Derived.IntWalk
namespace Go.Proofs.YtlbnlflfoafioaaDoor.LexC
set_option linter.unusedVariables false
open Go.RowKit Go.Proofs.YtlbnlflfoafioaaDoor.NumC

theorem str_of (s : ByteArray) : str s.data.toList = s := by obtain ⟨⟨l⟩⟩ := s; rfl
set_option maxRecDepth 100000 in
set_option maxHeartbeats 20000000 in
theorem lexBack (s t : ByteArray) (w : World) (hl : LexLib w) :
    Calls Tryd.prog 5 #[.string s, .string t] w fun e w' => e = .returned (.bool true) ∧ Below w.heap.size w w' := by
  by_cases h1 : 140 < s.size
  · go_enter Tryd.func5, Tryd.ntmps5
    go_wp2_with fail
    refine (wakes _ hl).mono ?_; rintro e w1 ⟨rfl, hb1⟩
    go_wp2
    go_ret
    exact ⟨rfl, hb1⟩
  by_cases h2 : 140 < t.size
  · go_enter Tryd.func5, Tryd.ntmps5
    go_wp2_with fail
    refine (wakes _ hl).mono ?_; rintro e w1 ⟨rfl, hb1⟩
    go_wp2
    go_ret
    exact ⟨rfl, hb1⟩
  have Q1 := Lib.hid (cut_quoted (l := s.data.toList) (by rw [← list_len]; omega))
  have Q2 := cut_shift (l := t.data.toList) (by rw [← list_len]; omega)
  have hq : (str (quL s.data.toList)).size ≤ 1000000 := by
    have := quB_len s.data.toList
    rw [str_size]; unfold quL; rw [List.length_append, list_len] at *; simp only [List.length_cons, List.length_nil]; omega
  have hr := cut_rise t.data.toList
  have hts := cut_toks t.data.toList
  generalize hR : cutL t.data.toList = R at *
  have HR := Lib.hid hR
  obtain ⟨ts, at_, er⟩ := R
  generalize hR2 : cutL ([32, 32] ++ t.data.toList ++ [32]) = R2 at *
  obtain ⟨ts2, at2, er2⟩ := R2
  obtain ⟨q3, q4⟩ := Q2
  simp only at q3 q4 hr hts
  subst q3 q4
  have HR2 : Hid (cutL (str ([32, 32] ++ t.data.toList ++ [32])).data.toList = ⟨ts.map shift, at2, er2⟩) := Lib.hid hR2
  have HRise := Lib.hid hr
  have e1 : (er2 != er2) = false := by simp
  have SA : (Op.stringOp .add { data := #[32, 32] } t) = (Op.stringOp .add (str [32, 32]) (str t.data.toList)) := by rw [str_of]; rfl
  have hsz : (str ([32, 32] ++ t.data.toList ++ [32])).size ≤ 1000000 := by rw [str_size]; simp only [List.length_append, List.length_cons, List.length_nil]; rw [← list_len]; omega
  have S1 : ∀ W : World, (Op.stringOp .add { data := #[32, 32] } t).run Tryd.prog W = .ok (.string (str ([32, 32] ++ t.data.toList))) W := fun W => by
    rw [SA, run_string_add_sum _ _ _ (by rw [str_size, str_size, ← list_len]; simp only [List.length_cons, List.length_nil]; omega), str_app]
  have S2 : ∀ W : World, (Op.stringOp .add (str ([32, 32] ++ t.data.toList)) { data := #[32] }).run Tryd.prog W = .ok (.string (str ([32, 32] ++ t.data.toList ++ [32]))) W := fun W => by
    rw [show ({ data := #[32] } : ByteArray) = str [32] from rfl, run_string_add_sum _ _ _ (by rw [str_size, str_size, List.length_append, ← list_len]; simp only [List.length_cons, List.length_nil]; omega), str_app]
  generalize str ([32, 32] ++ t.data.toList) = X2 at S1 S2
  generalize str ([32, 32] ++ t.data.toList ++ [32]) = X3 at S2 HR2 hsz
  have x1 : (s.toList != s.toList) = false := by simp
  have HS1 := Lib.hid S1; have HS2 := Lib.hid S2
  clear hR hR2 hr SA S1 S2
  go_enter Tryd.func5, Tryd.ntmps5
  go_wp2_with fail
  refine (quote s _ (by omega) hl).mono ?_; rintro e w1 ⟨rfl, hb1⟩
  go_wp2_with fail
  refine (cut _ _ hq (hl.below hb1)).mono ?_
  rw [show (str (quL s.data.toList)).data.toList = quL s.data.toList from rfl, Q1.out, str_of]; rintro e w2 ⟨v1, rfl, ho1, hb2⟩
  obtain ⟨A1, c1, rfl, ht1⟩ := (tokAt_own ho1).form
  obtain ⟨g, rfl, x0⟩ := ht1 0 (by simp)
  have p0 : w2.cell? ⟨g, 0, none⟩ = some (.int .i64 2) := x0.1
  have p2 : w2.cell? ⟨g, 2, none⟩ = some (.string s) := x0.2.2.1
  have p3 : w2.cell? ⟨g, 3, none⟩ = some (.int .i64 0) := x0.2.2.2
  clear x0 ht1 ho1
  have hB := hb1.trans (hb2.mono hb1.size)
  go_wp2_with fail
  refine (cut t _ (by omega) (hl.below hB)).mono ?_; rw [HR.out]; rintro e w3 ⟨v2, rfl, ho2, hb3⟩
  have T1 := Lib.hid (tokAt_own ho2)
  clear ho2
  have hB3 := hB.trans (hb3.mono hB.size)
  have A1 := HS1.out w3
  have A2 := HS2.out w3
  go_wp2_with fail
  refine (cut _ _ hsz (hl.below hB3)).mono ?_; rw [HR2.out]; rintro e w4 ⟨v3, rfl, ho3, hb4⟩
  have T2 := Lib.hid (tokAt_own ho3)
  clear ho3
  have hB4 := hB3.trans (hb4.mono hB3.size)
  have T3 := Lib.hid (T1.out.below hb4)
  clear A1 A2 T1 p0 p2 p3 hb1 hb2 hb3 hb4 hB hB3
  obtain ⟨A2, c2, rfl, ha2⟩ := T3.out.form
  obtain ⟨A3, c3, rfl, ha3⟩ := T2.out.form
  have HA := Lib.hid ha2; have HB := Lib.hid ha3
  clear ha2 ha3 T2 T3
  have HLen : Hid ((ts.map shift).length = ts.length) := Lib.hid (List.length_map _)
  rw [HLen.out]
  have n0 : ((ts.length : Int) != (ts.length : Int)) = false := by simp
  go_wp2_with fail
  go_loopw [14] (fun a wr => ∃ i : Nat, i ≤ ts.length ∧ a = .int .i64 i ∧ Below w4.heap.size w4 wr) (fun a _ => ts.length - (intOf a).toNat)
  case atStart => exact ⟨0, Nat.zero_le _, rfl, Below.refl _ _⟩
  case round =>
    obtain ⟨i, hi, rfl, hw⟩ := hrel
    by_cases hlt : i < ts.length
    · obtain ⟨g2, eA, a0, a1, a2, a3⟩ := HA.out i hlt
      obtain ⟨g3, eB, b0, b1, b2, b3⟩ := HB.out i (by rw [HLen.out]; exact hlt)
      simp only [List.getElem_map, shift] at b0 b1 b2 b3
      subst eA eB
      have y0 := HRise.out.lo ts[i] (List.getElem_mem hlt)
      have A0 := cell_later hw a0; have A1 := cell_later hw a1; have A2 := cell_later hw a2; have A3 := cell_later hw a3
      have B0 := cell_later hw b0; have B1 := cell_later hw b1; have B2 := cell_later hw b2; have B3 := cell_later hw b3
      clear a0 a1 a2 a3 b0 b1 b2 b3
      have v1 : IntKind.i64.wrap (ts[i].at_ + 2) = ts[i].at_ + 2 := IntWalk.i64_in _ (by omega)
      by_cases hz : i = 0
      · have d0 : decide (0 < i) = false := decide_eq_false (by omega)
        generalize ts[i].k = tk at *
        generalize ts[i].n = tn at *
        generalize ts[i].s = tx at *
        generalize ts[i].at_ = ta at *
        have e0 : (tk != tk) = false := by simp
        have e2 : (tn != tn) = false := by simp
        have e3 : (tx.toList != tx.toList) = false := by simp
        have e4 : (ta + 2 != ta + 2) = false := by simp
        clear hz
        go_wp2_with fail
        refine wp_region_quiet_lit (by kernel_rfl) (by kernel_rfl) ?_
        simp only [List.append_eq, List.cons_append, List.nil_append]
        repeat go_big_quiet_step (fail)
        refine wpQuiet_nil ?_
        intro _ hw'
        obtain ⟨nq, hw''⟩ := hw'
        subst hw''
        clear v1
        go_wp2
        go_roundw
        case rel => exact ⟨i + 1, by omega, by go_num, below_drewN' hw _⟩
        case measure => simp [intOf]; omega
      · have d0 : decide (0 < i) = true := decide_eq_true (by omega)
        obtain ⟨g4, eC, _, _, _, c3⟩ := HA.out (i - 1) (by omega)
        obtain rfl : g2 = g4 := by injection eC with eC; injection eC
        have C3 := cell_later hw c3
        have up := HRise.out.step (i := i - 1) (by omega)
        have up2 : ts[i - 1].at_ < ts[i].at_ := by
          have e : ts[i - 1 + 1]'(by omega) = ts[i] := by congr 1; omega
          rw [e] at up; exact up
        have d1 : decide (ts[i].at_ ≤ ts[i - 1].at_) = false := decide_eq_false (by omega)
        generalize ts[i - 1].at_ = tp at *
        clear c3 up up2 eC
        have v2 : IntKind.i64.wrap ((i : Int) - 1) = (i : Int) - 1 := IntWalk.i64_in _ (by omega)
        have v3 : ((i : Int) - 1).toNat = i - 1 := by omega
        have v4 : (1 : Int) ≤ (i : Int) := by omega
        have v5 : (0 : Int) ≤ (i : Int) - 1 := by omega
        have v6 : (i : Int) - 1 < (ts.length : Int) := by omega
        generalize ts[i].k = tk at *
        generalize ts[i].n = tn at *
        generalize ts[i].s = tx at *
        generalize ts[i].at_ = ta at *
        have e0 : (tk != tk) = false := by simp
        have e2 : (tn != tn) = false := by simp
        have e3 : (tx.toList != tx.toList) = false := by simp
        have e4 : (ta + 2 != ta + 2) = false := by simp
        clear hz
        go_wp2_with fail
        refine wp_region_quiet_lit (by kernel_rfl) (by kernel_rfl) ?_
        simp only [List.append_eq, List.cons_append, List.nil_append]
        repeat go_big_quiet_step (fail)
        refine wpQuiet_nil ?_
        intro _ hw'
        obtain ⟨nq, hw''⟩ := hw'
        subst hw''
        clear v1 v2 v3 v5 v6
        go_wp2
        go_roundw
        case rel => exact ⟨i + 1, by omega, by go_num, below_drewN' hw _⟩
        case measure => simp [intOf]; omega
    · go_wp2_with fail
      refine (wakes _ (hl.below (hB4.trans (hw.mono hB4.size)))).mono ?_; rintro e w5 ⟨rfl, hb5⟩
      go_wp2
      go_ret
      exact ⟨rfl, (hB4.trans (hw.mono hB4.size)).trans (hb5.mono (Nat.le_trans hB4.size hw.size))⟩
end Go.Proofs.YtlbnlflfoafioaaDoor.LexC
