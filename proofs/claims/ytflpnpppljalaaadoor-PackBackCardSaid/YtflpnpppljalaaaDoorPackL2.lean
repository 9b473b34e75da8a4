/-
  The law PackBack over what the program's bytes are taken to be.
-/
import Derived.Test.YtflpnpppljalaaaDoorPackN
namespace Go.Proofs.YtflpnpppljalaaaDoor.PackC
set_option linter.unusedVariables false
open Go.RowKit Go.Proofs.YtflpnpppljalaaaDoor.NumC Go.Proofs.YtflpnpppljalaaaDoor.RowsC

theorem ok8 : I64 8 := by unfold I64; omega
set_option maxHeartbeats 2000000 in
theorem packBack {K : World → Prop} (I : CodeP K) (v : Nat) (s r : ByteArray) (w : World) (hv : v < 18446744073709551616) (hK : K w) :
    Calls Tryd.prog 5 #[.int .u64 (v : Nat), .string s, .string r] w fun e w' => e = .returned (.bool true) ∧ Below w.heap.size w w' := by
  have HI := Lib.hid I
  have HK := Lib.hid hK
  clear I hK
  by_cases hs : 60000 < s.size
  · have hd := (show (60000 : Int) < (s.size : Int) by omega)
    have hc := cwakes HI.out w HK.out
    go_enter Tryd.func5, Tryd.ntmps5
    go_wp2_with fail
    refine hc.mono ?_; rintro e x1 ⟨rfl, hb1⟩
    clear hc
    go_wp2_with fail
    go_ret
    exact ⟨rfl, hb1⟩
  · by_cases hr : 1000 < r.size
    · have hd0 : ¬ (60000 : Int) < (s.size : Int) := by omega
      have hd := (show (1000 : Int) < (r.size : Int) by omega)
      have hc := cwakes HI.out w HK.out
      go_enter Tryd.func5, Tryd.ntmps5
      go_wp2_with fail
      refine hc.mono ?_; rintro e x1 ⟨rfl, hb1⟩
      clear hc
      go_wp2_with fail
      go_ret
      exact ⟨rfl, hb1⟩
    · have hd0 : ¬ (60000 : Int) < (s.size : Int) := by omega
      have hd : ¬ (1000 : Int) < (r.size : Int) := by omega
      obtain ⟨a, ha⟩ : ∃ a, a = numS v 8 := ⟨_, rfl⟩
      obtain ⟨c, hc⟩ : ∃ c, c = textS s := ⟨_, rfl⟩
      obtain ⟨B, hB⟩ : ∃ B, B = r ++ a ++ c ++ r := ⟨_, rfl⟩
      have ha1 : a = rowS (beN 8 v) := ha.trans (num8 v hv).2
      have hc1 : c = rowS (beN 2 s.size) ++ s := hc.trans (text_ok s (by omega)).2
      have ha2 : a.size = 8 := by rw [ha1, rowS_size, be_len]
      have hc2 : c.size = 2 + s.size := by rw [hc1, ByteArray.size_append, rowS_size, be_len]
      have hB2 : B.size = r.size + 8 + (2 + s.size) + r.size := by rw [hB, ByteArray.size_append, ByteArray.size_append, ByteArray.size_append, ha2, hc2]
      obtain ⟨t1, t2, t3, t4, t5, t6⟩ := back_all v s r hv (by omega) a c B ha1 hc1 hB
      have C1 := Lib.hid (fun w (h : K w) => by
        have h := HI.out.pNum v 8 w h hv ok8
        rw [(num8 v hv).1, ← ha] at h; exact h)
      have C2 := Lib.hid (fun w (h : K w) => by
        have h := HI.out.pText s w h (by omega)
        rw [(text_ok s (by omega)).1, ← hc] at h; exact h)
      have C3 := Lib.hid (fun w (h : K w) => by
        have h := HI.out.pTake B r.size 8 w h (by omega) (by unfold I64; omega) ok8
        rw [t1, t2, t3, hB] at h; exact h)
      have C4 := Lib.hid (fun w (h : K w) => by
        have h := HI.out.pCut B (r.size + 8) 60000 w h (by omega) (by unfold I64; omega) (by unfold I64; omega)
        rw [t4, t5, t6, hB] at h; exact h)
      have HB := Lib.hid hB
      have HB2 := Lib.hid hB2
      have z1 : ¬ 9223372036854775807 < r.size + a.size := by omega
      have z2 : ¬ 9223372036854775807 < (r ++ a).size + c.size := by rw [ByteArray.size_append]; omega
      have z3 : ¬ 9223372036854775807 < (r ++ a ++ c).size + r.size := by rw [ByteArray.size_append, ByteArray.size_append]; omega
      have z4 : ¬ 9223372036854775807 < r.size + a.size + c.size := by omega
      have z5 : ¬ 9223372036854775807 < r.size + a.size + c.size + r.size := by omega
      have q1 : (s.toList == s.toList) = true := beq_self_eq_true _
      have q3 : ((r.size : Int) + 10 + (s.size : Int) == (r.size : Int) + (a.size : Int) + (c.size : Int)) = true := by rw [beq_iff_eq]; omega
      have HZ := Lib.hid (And.intro ha2 hc2)
      clear ha hc hB ha1 hc1 hB2 t1 t2 t3 t4 t5 t6 ha2 hc2
      go_enter Tryd.func5, Tryd.ntmps5
      go_wp2_with fail
      refine (C1.out w HK.out).mono ?_; rintro e x1 ⟨rfl, hb1⟩
      have B1 := Lib.hid (hb1)
      have K1 := Lib.hid (HI.out.keep HK.out hb1)
      clear hb1
      go_wp2_with fail
      refine (C2.out x1 K1.out).mono ?_; rintro e x2 ⟨rfl, hb2⟩
      have B2 := Lib.hid (B1.out.trans (hb2.mono B1.out.size))
      have K2 := Lib.hid (HI.out.keep K1.out hb2)
      clear hb2
      go_wp2_with fail
      refine (C3.out x2 K2.out).mono ?_; rintro e x3 ⟨rfl, hb3⟩
      have B3 := Lib.hid (B2.out.trans (hb3.mono B2.out.size))
      have K3 := Lib.hid (HI.out.keep K2.out hb3)
      clear hb3
      go_wp2_with fail
      refine (C4.out x3 K3.out).mono ?_; rintro e x4 ⟨rfl, hb4⟩
      have B4 := Lib.hid (B3.out.trans (hb4.mono B3.out.size))
      have K4 := Lib.hid (HI.out.keep K3.out hb4)
      clear hb4
      go_wp2_with fail
      refine (cwakes HI.out x4 K4.out).mono ?_; rintro e x5 ⟨rfl, hb5⟩
      have B5 := Lib.hid (B4.out.trans (hb5.mono B4.out.size))
      have K5 := Lib.hid (HI.out.keep K4.out hb5)
      clear hb5
      go_wp2_with fail
      go_ret
      exact ⟨rfl, B5.out⟩
end Go.Proofs.YtflpnpppljalaaaDoor.PackC
