/-
  The law PackApart over what the program's bytes are taken to be.
-/
import Derived.Test.YtflpnpppljalaaaDoorPackL2
import Derived.Lib.Strings
namespace Go.Proofs.YtflpnpppljalaaaDoor.PackC
set_option linter.unusedVariables false
open Go.RowKit Go.Proofs.YtflpnpppljalaaaDoor.NumC Go.Proofs.YtflpnpppljalaaaDoor.RowsC

theorem less_lt : ∀ l m : List UInt8, Op.bytesLess l m = decide (l < m) := by
  intro l
  induction l with
  | nil =>
    intro m
    cases m with
    | nil => rw [decide_eq_false (List.lt_irrefl _)]; rfl
    | cons b m => rw [decide_eq_true (List.nil_lt_cons b m)]; rfl
  | cons a l ih =>
    intro m
    cases m with
    | nil => rw [decide_eq_false (List.not_lt_nil _)]; rfl
    | cons b m =>
      show (decide (a < b) || (a == b && Op.bytesLess l m)) = _
      rw [ih, Bool.eq_iff_iff]
      simp [List.cons_lt_cons_iff]
theorem lt_of_num {v u : Nat} (hv : v < 18446744073709551616) (hu : u < 18446744073709551616) : Op.bytesLess (numS v 8).toList (numS u 8).toList = decide (v < u) := by
  have e : (256 : Nat) ^ 8 = 18446744073709551616 := by decide
  rw [Lib.toList_data, Lib.toList_data, (num8 v hv).2, (num8 u hu).2, rowS_list, rowS_list, less_lt]
  exact decide_eq_decide.2 (be_lt 8 v u (by rw [e]; exact hv) (by rw [e]; exact hu))
theorem beq_bytes (s t : ByteArray) : (s.toList == t.toList) = decide (s = t) := by
  rw [Lib.toList_data, Lib.toList_data]
  by_cases h : s = t
  · rw [decide_eq_true h, h]; exact beq_self_eq_true _
  · rw [decide_eq_false h]; exact beq_eq_false_iff_ne.2 (fun e => h (bytes_ext e))
set_option maxHeartbeats 2000000 in
set_option maxRecDepth 100000 in
theorem packApart {K : World → Prop} (I : CodeP K) (v u : Nat) (s t : ByteArray) (w : World) (hv : v < 18446744073709551616) (hu : u < 18446744073709551616) (hK : K w) :
    Calls Tryd.prog 6 #[.agg #[.int .u64 (v : Nat), .int .u64 (u : Nat)], .string s, .string t] w fun e w' => e = .returned (.bool true) ∧ Below w.heap.size w w' := by
  have HI := Lib.hid I
  have HK0 := Lib.hid hK
  have c0 : (w.alloc (.cells #[.int .u64 (v : Nat), .int .u64 (u : Nat)] 42)).cell? ⟨w.heap.size, 0, none⟩ = some (.int .u64 (v : Nat)) := by simp [go_sem]
  have c1 : (w.alloc (.cells #[.int .u64 (v : Nat), .int .u64 (u : Nat)] 42)).cell? ⟨w.heap.size, 1, none⟩ = some (.int .u64 (u : Nat)) := by simp [go_sem]
  clear I hK
  go_enter Tryd.func6, Tryd.ntmps6
  go_wp2_with fail
  go_quiet (fail)
  have HB := Lib.hid (show Below w.heap.size w ((w.alloc (.cells #[.int .u64 (v : Nat), .int .u64 (u : Nat)] 42)).drewN nq) from below_drewN' ((Below.refl _ w).alloc (Nat.le_refl _) _) _)
  have HK := Lib.hid (HI.out.keep HK0.out HB.out)
  clear c0 c1
  generalize ((w.alloc (.cells #[.int .u64 (v : Nat), .int .u64 (u : Nat)] 42)).drewN nq) = W at *
  by_cases hs : s.size ≤ 60000 ∧ t.size ≤ 60000
  · obtain ⟨hs, ht⟩ := hs
    have hd1 : ¬ (60000 : Int) < (s.size : Int) := by omega
    have hd2 : ¬ (60000 : Int) < (t.size : Int) := by omega
    have C1 := Lib.hid (fun w (h : K w) => by
      have h := HI.out.pNum v 8 w h hv ok8
      rw [(num8 v hv).1] at h; exact h)
    have C2 := Lib.hid (fun w (h : K w) => by
      have h := HI.out.pNum u 8 w h hu ok8
      rw [(num8 u hu).1] at h; exact h)
    have C3 := Lib.hid (fun w (h : K w) => by
      have h := HI.out.pText s w h (by omega)
      rw [(text_ok s (by omega)).1] at h; exact h)
    have C4 := Lib.hid (fun w (h : K w) => by
      have h := HI.out.pText t w h (by omega)
      rw [(text_ok t (by omega)).1] at h; exact h)
    have f1 := lt_of_num hv hu
    have f2 : ((numS v 8).toList == (numS u 8).toList) = decide (v = u) := by rw [beq_bytes]; exact decide_eq_decide.2 (num_inj hv hu)
    have f3 : ((textS s).toList == (textS t).toList) = (s.toList == t.toList) := by rw [beq_bytes, beq_bytes]; exact decide_eq_decide.2 (text_inj (by omega) (by omega))
    have f4 : (textS s).size = s.size + 2 := by rw [(text_ok s (by omega)).2, ByteArray.size_append, rowS_size, be_len]; omega
    generalize numS v 8 = a at *
    generalize numS u 8 = b at *
    generalize textS s = c at *
    generalize textS t = d at *
    have f5 : ((v : Int) == (u : Int)) = decide (v = u) := by
      by_cases h : v = u
      · rw [decide_eq_true h, h]; exact beq_self_eq_true _
      · rw [decide_eq_false h]; exact beq_eq_false_iff_ne.2 (by omega)
    have f6 : decide ((v : Int) < (u : Int)) = decide (v < u) := decide_eq_decide.2 (by omega)
    have f7 : ((c.size : Int) == (s.size : Int) + 2) = true := by rw [beq_iff_eq]; omega
    have H4 := Lib.hid f4
    generalize hz1 : decide (v < u) = z1 at *
    generalize hz2 : decide (v = u) = z2 at *
    generalize hz3 : (s.toList == t.toList) = z3 at *
    clear f4
    have g : IntKind.i64.wrap ((s.size : Int) + 2) = (s.size : Int) + 2 := by rw [IntKind.wrap_i64]; omega
    go_wp2_with fail
    refine (C1.out W HK.out).mono ?_; rintro e x1 ⟨rfl, hb1⟩
    have B1 := Lib.hid (HB.out.trans (hb1.mono HB.out.size))
    have K1 := Lib.hid (HI.out.keep HK.out hb1)
    clear hb1
    go_wp2_with fail
    refine (C2.out x1 K1.out).mono ?_; rintro e x2 ⟨rfl, hb2⟩
    have B2 := Lib.hid (B1.out.trans (hb2.mono B1.out.size))
    have K2 := Lib.hid (HI.out.keep K1.out hb2)
    clear hb2
    go_wp2_with fail
    refine (C3.out x2 K2.out).mono ?_; rintro e x3 ⟨rfl, hb3⟩
    have B3 := Lib.hid (B2.out.trans (hb3.mono B2.out.size))
    have K3 := Lib.hid (HI.out.keep K2.out hb3)
    clear hb3
    go_wp2_with fail
    refine (C4.out x3 K3.out).mono ?_; rintro e x4 ⟨rfl, hb4⟩
    have B4 := Lib.hid (B3.out.trans (hb4.mono B3.out.size))
    have K4 := Lib.hid (HI.out.keep K3.out hb4)
    clear hb4
    go_wp2_with fail
    refine (cwakes HI.out x4 K4.out).mono ?_; rintro e x5 ⟨rfl, hb5⟩
    have B5 := Lib.hid (B4.out.trans (hb5.mono B4.out.size))
    have K5 := Lib.hid (HI.out.keep K4.out hb5)
    clear hb5
    go_wp2_with fail
    go_ret
    exact ⟨rfl, B5.out⟩
  · have hc := cwakes HI.out W HK.out
    by_cases h1 : 60000 < s.size
    · have hd : (60000 : Int) < (s.size : Int) := by omega
      go_wp2_with fail
      refine hc.mono ?_; rintro e x1 ⟨rfl, hb1⟩
      have HB1 := Lib.hid (HB.out.trans (hb1.mono HB.out.size))
      clear hc hb1
      go_wp2_with fail
      go_ret
      exact ⟨rfl, HB1.out⟩
    · have hd : ¬ (60000 : Int) < (s.size : Int) := by omega
      have hd2 : (60000 : Int) < (t.size : Int) := by omega
      go_wp2_with fail
      refine hc.mono ?_; rintro e x1 ⟨rfl, hb1⟩
      have HB1 := Lib.hid (HB.out.trans (hb1.mono HB.out.size))
      clear hc hb1
      go_wp2_with fail
      go_ret
      exact ⟨rfl, HB1.out⟩
end Go.Proofs.YtflpnpppljalaaaDoor.PackC
