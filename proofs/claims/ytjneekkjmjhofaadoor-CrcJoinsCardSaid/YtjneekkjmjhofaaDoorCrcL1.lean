/-
  The laws CrcSums, CrcJoins over what the program's sums are taken to do.
-/
import Derived.Test.YtjneekkjmjhofaaDoorCrcI
namespace Go.Proofs.YtjneekkjmjhofaaDoor.CrcC
set_option linter.unusedVariables false
open Go.RowKit Go.Proofs.YtjneekkjmjhofaaDoor.NumC

set_option maxHeartbeats 1000000 in
theorem crcSums {K : World → Prop} (I : CodeC K) (s : ByteArray) (a : Nat) (b : UInt8) (w : World) (ha : a < 4294967296) (hK : K w) :
    Calls Tryd.prog 3 #[.string s, .int .u32 (a : Nat), .int .u8 (b.toNat : Nat)] w fun e w' => e = .returned (.bool true) ∧ Below w.heap.size w w' := by
  have HI := Lib.hid I
  have HK := Lib.hid hK
  by_cases hs : 20000 < s.size
  · have hd : (20000 : Int) < (s.size : Int) := by omega
    have hc := cwakes I w hK
    clear I hK
    go_enter Tryd.func3, Tryd.ntmps3
    go_wp2_with fail
    refine hc.mono ?_; rintro e w1 ⟨rfl, hb1⟩
    clear hc
    go_wp2_with fail
    go_ret
    exact ⟨rfl, hb1⟩
  · have hd : ¬ (20000 : Int) < (s.size : Int) := by omega
    have c1 := I.sum s w hK (by omega)
    have C2 := Lib.hid (fun w => rSum s w (by omega))
    have C3 := Lib.hid (fun w (h : K w) => I.next a b w h ha)
    have C4 := Lib.hid (fun w => rNext a b w ha)
    generalize sumN s.data.toList = n at *
    generalize nextN a b = m at *
    clear I hK
    go_enter Tryd.func3, Tryd.ntmps3
    go_wp2_with fail
    refine c1.mono ?_; rintro e w1 ⟨rfl, hb1⟩
    have K1 := Lib.hid (HI.out.keep HK.out hb1)
    have B1 := Lib.hid hb1
    clear c1 hb1
    go_wp2_with fail
    refine (C2.out w1).mono ?_; rintro e w2 ⟨rfl, hb2⟩
    have K2 := Lib.hid (HI.out.keep K1.out hb2)
    have B2 := Lib.hid (B1.out.trans (hb2.mono B1.out.size))
    clear hb2
    go_wp2_with fail
    refine (C3.out w2 K2.out).mono ?_; rintro e w3 ⟨rfl, hb3⟩
    have K3 := Lib.hid (HI.out.keep K2.out hb3)
    have B3 := Lib.hid (B2.out.trans (hb3.mono B2.out.size))
    clear hb3
    go_wp2_with fail
    refine (C4.out w3).mono ?_; rintro e w4 ⟨rfl, hb4⟩
    have K4 := Lib.hid (HI.out.keep K3.out hb4)
    have B4 := Lib.hid (B3.out.trans (hb4.mono B3.out.size))
    clear hb4
    go_wp2_with fail
    refine (cwakes HI.out w4 K4.out).mono ?_; rintro e w5 ⟨rfl, hb5⟩
    have B5 := Lib.hid (B4.out.trans (hb5.mono B4.out.size))
    clear hb5
    go_wp2_with fail
    go_ret
    exact ⟨rfl, B5.out⟩
theorem list_of_append (s t : ByteArray) : (s ++ t).data.toList = s.data.toList ++ t.data.toList := by
  rw [ByteArray.data_append, Array.toList_append]
theorem sum_from (s t : ByteArray) (k : Nat) (h : k < t.size) : sumN (s.data.toList ++ t.data.toList.take (k + 1)) = nextN (sumN (s.data.toList ++ t.data.toList.take k)) t[k] := by
  rw [← sum_next, List.append_assoc]
  congr 2
  rw [List.take_add_one, List.getElem?_eq_getElem (by exact h)]
  rfl
set_option maxHeartbeats 2000000 in
theorem crcJoins {K : World → Prop} (I : CodeC K) (s t : ByteArray) (k : Int) (w : World) (hk : I64 k) (hK : K w) :
    Calls Tryd.prog 4 #[.string s, .string t, .int .i64 k] w fun e w' => e = .returned (.bool true) ∧ Below w.heap.size w w' := by
  have HI := Lib.hid I
  have HK := Lib.hid hK
  by_cases hs : s.size ≤ 20000 ∧ t.size ≤ 20000
  · obtain ⟨hs, ht⟩ := hs
    have hd : ¬ (20000 : Int) < (s.size : Int) := by omega
    have hd2 : ¬ (20000 : Int) < (t.size : Int) := by omega
    have hbig : ¬ 9223372036854775807 < s.size + t.size := by omega
    have c1 := I.sum s w hK hs
    have CS := Lib.hid (fun w (h : K w) => I.sum s w h hs)
    have CT := Lib.hid (fun w (h : K w) => I.sum t w h ht)
    have ha : sumN s.data.toList < 4294967296 := sum_lt _
    have hb : sumN t.data.toList < 4294967296 := sum_lt _
    have CR := Lib.hid (fun w => by
      have h := rSum (s ++ t) w (by rw [ByteArray.size_append]; omega)
      rw [list_of_append] at h; exact h)
    have CJ := Lib.hid (fun w (h : K w) => by
      have h := I.join (sumN s.data.toList) (sumN t.data.toList) t.size w h ha hb ht
      rw [show joinN (sumN s.data.toList) (sumN t.data.toList) t.size = sumN (s.data.toList ++ t.data.toList) from by rw [sum_join]; rfl] at h; exact h)
    have CN := Lib.hid (fun w (h : K w) (hn : k < 0) => I.none (sumN s.data.toList) (sumN t.data.toList) k w h ha hb hn hk.1)
    have ST := Lib.hid (sum_from s t)
    have SE := Lib.hid (show sumN (s.data.toList ++ t.data.toList.take t.size) = sumN (s.data.toList ++ t.data.toList) by rw [List.take_of_length_le (by exact Nat.le_refl _)])
    have S0 := Lib.hid (show sumN s.data.toList = sumN (s.data.toList ++ t.data.toList.take 0) by rw [List.take_zero, List.append_nil])
    have SL := Lib.hid (fun j => sum_lt (s.data.toList ++ t.data.toList.take j))
    generalize sumN (s.data.toList ++ t.data.toList) = n at *
    generalize sumN s.data.toList = a at *
    generalize sumN t.data.toList = b at *
    clear I hK
    go_enter Tryd.func4, Tryd.ntmps4
    go_wp2_with fail
    refine c1.mono ?_; rintro e w1 ⟨rfl, hb1⟩
    have K1 := Lib.hid (HI.out.keep HK.out hb1)
    have B1 := Lib.hid hb1
    clear c1 hb1
    go_wp2_with fail
    go_loopw [7, 8] (fun cv iv wr => ∃ j c : Nat, j ≤ t.size ∧ cv = .int .u32 (c : Nat) ∧ iv = .int .i64 j ∧ Hid (K wr ∧ Below w.heap.size w wr ∧ c = sumN (s.data.toList ++ t.data.toList.take j))) (fun cv iv _ => t.size - (intOf iv).toNat)
    case atStart => exact ⟨0, a, Nat.zero_le _, rfl, rfl, Lib.hid ⟨K1.out, B1.out, S0.out⟩⟩
    case round =>
      obtain ⟨j, c, hj, rfl, rfl, HR⟩ := hrel
      by_cases hlt : j < t.size
      · have hd3 : (j : Int) < (t.size : Int) := by omega
        have hc : c < 4294967296 := by rw [HR.out.2.2]; exact SL.out j
        have hcall := HI.out.next c t[j] wr HR.out.1 hc
        have HN := Lib.hid (show nextN c t[j] = sumN (s.data.toList ++ t.data.toList.take (j + 1)) by rw [HR.out.2.2, ← ST.out j hlt])
        generalize nextN c t[j] = m at *
        go_wp2_with fail
        refine hcall.mono ?_; rintro e w2 ⟨rfl, hb2⟩
        have HQ := Lib.hid (And.intro (HI.out.keep HR.out.1 hb2) (And.intro (HR.out.2.1.trans (hb2.mono HR.out.2.1.size)) HN.out))
        clear hcall hb2
        go_wp2_with fail
        go_roundw
        case rel => exact ⟨j + 1, m, by omega, rfl, by go_num, HQ⟩
        case measure => simp [intOf]; omega
      · have hd3 : ¬ (j : Int) < (t.size : Int) := by omega
        obtain rfl : j = t.size := by omega
        have hcn : c = n := by rw [HR.out.2.2]; exact SE.out
        subst hcn
        have KR := Lib.hid HR.out.1
        have BR := Lib.hid HR.out.2.1
        have hcr := CR.out wr
        clear HR
        go_wp2_with fail
        refine hcr.mono ?_; rintro e w3 ⟨rfl, hb3⟩
        have K3 := Lib.hid (HI.out.keep KR.out hb3)
        have B3 := Lib.hid (BR.out.trans (hb3.mono BR.out.size))
        clear hb3 hcr
        go_wp2_with fail
        refine (CS.out w3 K3.out).mono ?_; rintro e w4 ⟨rfl, hb4⟩
        have K4 := Lib.hid (HI.out.keep K3.out hb4)
        have B4 := Lib.hid (B3.out.trans (hb4.mono B3.out.size))
        clear hb4
        go_wp2_with fail
        refine (CT.out w4 K4.out).mono ?_; rintro e w5 ⟨rfl, hb5⟩
        have K5 := Lib.hid (HI.out.keep K4.out hb5)
        have B5 := Lib.hid (B4.out.trans (hb5.mono B4.out.size))
        clear hb5
        go_wp2_with fail
        refine (CJ.out w5 K5.out).mono ?_; rintro e w6 ⟨rfl, hb6⟩
        have K6 := Lib.hid (HI.out.keep K5.out hb6)
        have B6 := Lib.hid (B5.out.trans (hb6.mono B5.out.size))
        have hcr := CR.out w6
        clear hb6
        go_wp2_with fail
        refine hcr.mono ?_; rintro e w7 ⟨rfl, hb7⟩
        have K7 := Lib.hid (HI.out.keep K6.out hb7)
        have B7 := Lib.hid (B6.out.trans (hb7.mono B6.out.size))
        clear hb7 hcr
        by_cases h0 : 0 ≤ k
        · go_wp2_with fail
          refine (cwakes HI.out w7 K7.out).mono ?_; rintro e w8 ⟨rfl, hb8⟩
          have B8 := Lib.hid (B7.out.trans (hb8.mono B7.out.size))
          clear hb8
          go_wp2_with fail
          go_ret
          exact ⟨rfl, B8.out⟩
        · have hk0 : k < 0 := by omega
          go_wp2_with fail
          refine (CS.out w7 K7.out).mono ?_; rintro e w8 ⟨rfl, hb8⟩
          have K8 := Lib.hid (HI.out.keep K7.out hb8)
          have B8 := Lib.hid (B7.out.trans (hb8.mono B7.out.size))
          clear hb8
          go_wp2_with fail
          refine (CT.out w8 K8.out).mono ?_; rintro e w9 ⟨rfl, hb9⟩
          have K9 := Lib.hid (HI.out.keep K8.out hb9)
          have B9 := Lib.hid (B8.out.trans (hb9.mono B8.out.size))
          clear hb9
          go_wp2_with fail
          refine (CN.out w9 K9.out hk0).mono ?_; rintro e w10 ⟨rfl, hb10⟩
          have K10 := Lib.hid (HI.out.keep K9.out hb10)
          have B10 := Lib.hid (B9.out.trans (hb10.mono B9.out.size))
          clear hb10
          go_wp2_with fail
          refine (cwakes HI.out w10 K10.out).mono ?_; rintro e w11 ⟨rfl, hb11⟩
          have B11 := Lib.hid (B10.out.trans (hb11.mono B10.out.size))
          clear hb11
          go_wp2_with fail
          go_ret
          exact ⟨rfl, B11.out⟩
  · have hc := cwakes I w hK
    clear I hK
    by_cases h1 : 20000 < s.size
    · have hd : (20000 : Int) < (s.size : Int) := by omega
      go_enter Tryd.func4, Tryd.ntmps4
      go_wp2_with fail
      refine hc.mono ?_; rintro e w1 ⟨rfl, hb1⟩
      clear hc
      go_wp2_with fail
      go_ret
      exact ⟨rfl, hb1⟩
    · have hd : ¬ (20000 : Int) < (s.size : Int) := by omega
      have hd2 : (20000 : Int) < (t.size : Int) := by omega
      go_enter Tryd.func4, Tryd.ntmps4
      go_wp2_with fail
      refine hc.mono ?_; rintro e w1 ⟨rfl, hb1⟩
      clear hc
      go_wp2_with fail
      go_ret
      exact ⟨rfl, hb1⟩
end Go.Proofs.YtjneekkjmjhofaaDoor.CrcC
