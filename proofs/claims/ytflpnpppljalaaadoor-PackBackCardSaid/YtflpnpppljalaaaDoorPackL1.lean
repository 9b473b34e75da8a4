/-
  The laws PackMakes, PackTakes over what the program's bytes are taken to be.
-/
import Derived.Test.YtflpnpppljalaaaDoorPackI
namespace Go.Proofs.YtflpnpppljalaaaDoor.PackC
set_option linter.unusedVariables false
open Go.RowKit Go.Proofs.YtflpnpppljalaaaDoor.NumC Go.Proofs.YtflpnpppljalaaaDoor.RowsC

theorem num_bd (v : Nat) (n : Int) : 0 ≤ numE v n ∧ numE v n ≤ 100 := by unfold numE; split <;> (try split) <;> decide
theorem text_bd (s : ByteArray) : 0 ≤ textE s ∧ textE s ≤ 100 := by unfold textE; split <;> decide
theorem take_bd (b : ByteArray) (p n : Int) : 0 ≤ takeE b p n ∧ takeE b p n ≤ 100 := by unfold takeE; split <;> (try split) <;> decide
theorem cut_bd (b : ByteArray) (p m : Int) : 0 ≤ cutE b p m ∧ cutE b p m ≤ 100 := by unfold cutE; split <;> (try split) <;> decide
set_option maxHeartbeats 1000000 in
theorem packMakes {K : World → Prop} (I : CodeP K) (v : Nat) (n : Int) (s : ByteArray) (w : World) (hv : v < 18446744073709551616) (hn : I64 n) (hK : K w) :
    Calls Tryd.prog 3 #[.int .u64 (v : Nat), .int .i64 n, .string s] w fun e w' => e = .returned (.bool true) ∧ Below w.heap.size w w' := by
  have HI := Lib.hid I
  have HK := Lib.hid hK
  clear I hK
  by_cases hs : 70000 < s.size
  · have hd := (show (70000 : Int) < (s.size : Int) by omega)
    have hc := cwakes HI.out w HK.out
    go_enter Tryd.func3, Tryd.ntmps3
    go_wp2_with fail
    refine hc.mono ?_; rintro e x1 ⟨rfl, hb1⟩
    clear hc
    go_wp2_with fail
    go_ret
    exact ⟨rfl, hb1⟩
  · have hd : ¬ (70000 : Int) < (s.size : Int) := by omega
    have C1 := Lib.hid (fun w (h : K w) => HI.out.pNum v n w h hv hn)
    have C2 := Lib.hid (fun w => rNum v n w hv)
    have C3 := Lib.hid (fun w (h : K w) => HI.out.pText s w h (by omega))
    have C4 := Lib.hid (fun w => rText s w (by omega))
    have b1 := num_bd v n
    have b2 := text_bd s
    generalize numS v n = a at *
    generalize numE v n = e1 at *
    generalize textS s = c at *
    generalize textE s = e2 at *
    have g1 : IntKind.i64.wrap e1 = e1 := by rw [IntKind.wrap_i64]; omega
    have g2 : IntKind.i64.wrap e2 = e2 := by rw [IntKind.wrap_i64]; omega
    have q1 : (a.toList == a.toList) = true := beq_self_eq_true _
    have q2 : (c.toList == c.toList) = true := beq_self_eq_true _
    go_enter Tryd.func3, Tryd.ntmps3
    go_wp2_with fail
    refine (C1.out w HK.out).mono ?_; rintro e x1 ⟨rfl, hb1⟩
    have B1 := Lib.hid (hb1)
    have K1 := Lib.hid (HI.out.keep HK.out hb1)
    clear hb1
    go_wp2_with fail
    refine (C2.out x1).mono ?_; rintro e x2 ⟨rfl, hb2⟩
    have B2 := Lib.hid (B1.out.trans (hb2.mono B1.out.size))
    have K2 := Lib.hid (HI.out.keep K1.out hb2)
    clear hb2
    go_wp2_with fail
    refine (C3.out x2 K2.out).mono ?_; rintro e x3 ⟨rfl, hb3⟩
    have B3 := Lib.hid (B2.out.trans (hb3.mono B2.out.size))
    have K3 := Lib.hid (HI.out.keep K2.out hb3)
    clear hb3
    go_wp2_with fail
    refine (C4.out x3).mono ?_; rintro e x4 ⟨rfl, hb4⟩
    have B4 := Lib.hid (B3.out.trans (hb4.mono B3.out.size))
    have K4 := Lib.hid (HI.out.keep K3.out hb4)
    clear hb4
    go_wp2_with fail
    refine (cwakes HI.out x4 K4.out).mono ?_; rintro e x5 ⟨rfl, hb5⟩
    have B5 := Lib.hid (B4.out.trans (hb5.mono B4.out.size))
    have K5 := Lib.hid (HI.out.keep K4.out hb5)
    clear hb5
    go_wp2_with fail
    go_ret
    exact ⟨rfl, B5.out⟩
set_option maxHeartbeats 1000000 in
theorem packTakes {K : World → Prop} (I : CodeP K) (b : ByteArray) (p n : Int) (w : World) (hp : I64 p) (hn : I64 n) (hK : K w) :
    Calls Tryd.prog 4 #[.string b, .int .i64 p, .int .i64 n] w fun e w' => e = .returned (.bool true) ∧ Below w.heap.size w w' := by
  have HI := Lib.hid I
  have HK := Lib.hid hK
  clear I hK
  by_cases hs : 70000 < b.size
  · have hd := (show (70000 : Int) < (b.size : Int) by omega)
    have hc := cwakes HI.out w HK.out
    go_enter Tryd.func4, Tryd.ntmps4
    go_wp2_with fail
    refine hc.mono ?_; rintro e x1 ⟨rfl, hb1⟩
    clear hc
    go_wp2_with fail
    go_ret
    exact ⟨rfl, hb1⟩
  · have hd : ¬ (70000 : Int) < (b.size : Int) := by omega
    have C1 := Lib.hid (fun w (h : K w) => HI.out.pTake b p n w h (by omega) hp hn)
    have C2 := Lib.hid (fun w => rTake b p n w (by omega))
    have C3 := Lib.hid (fun w (h : K w) => HI.out.pCut b p n w h (by omega) hp hn)
    have C4 := Lib.hid (fun w => rCut b p n w (by omega))
    have b1 := take_bd b p n
    have b2 := cut_bd b p n
    generalize takeV b p n = v at *
    generalize takeK b p n = k1 at *
    generalize takeE b p n = e1 at *
    generalize cutS b p n = c at *
    generalize cutK b p n = k2 at *
    generalize cutE b p n = e2 at *
    have g1 : IntKind.i64.wrap e1 = e1 := by rw [IntKind.wrap_i64]; omega
    have g2 : IntKind.i64.wrap e2 = e2 := by rw [IntKind.wrap_i64]; omega
    have q2 : (c.toList == c.toList) = true := beq_self_eq_true _
    go_enter Tryd.func4, Tryd.ntmps4
    go_wp2_with fail
    refine (C1.out w HK.out).mono ?_; rintro e x1 ⟨rfl, hb1⟩
    have B1 := Lib.hid (hb1)
    have K1 := Lib.hid (HI.out.keep HK.out hb1)
    clear hb1
    go_wp2_with fail
    refine (C2.out x1).mono ?_; rintro e x2 ⟨rfl, hb2⟩
    have B2 := Lib.hid (B1.out.trans (hb2.mono B1.out.size))
    have K2 := Lib.hid (HI.out.keep K1.out hb2)
    clear hb2
    go_wp2_with fail
    refine (C3.out x2 K2.out).mono ?_; rintro e x3 ⟨rfl, hb3⟩
    have B3 := Lib.hid (B2.out.trans (hb3.mono B2.out.size))
    have K3 := Lib.hid (HI.out.keep K2.out hb3)
    clear hb3
    go_wp2_with fail
    refine (C4.out x3).mono ?_; rintro e x4 ⟨rfl, hb4⟩
    have B4 := Lib.hid (B3.out.trans (hb4.mono B3.out.size))
    have K4 := Lib.hid (HI.out.keep K3.out hb4)
    clear hb4
    go_wp2_with fail
    refine (cwakes HI.out x4 K4.out).mono ?_; rintro e x5 ⟨rfl, hb5⟩
    have B5 := Lib.hid (B4.out.trans (hb5.mono B4.out.size))
    have K5 := Lib.hid (HI.out.keep K4.out hb5)
    clear hb5
    go_wp2_with fail
    go_ret
    exact ⟨rfl, B5.out⟩
end Go.Proofs.YtflpnpppljalaaaDoor.PackC
