/-
  The law CrcTurned over what the program's sums are taken to do.
-/
import Derived.Test.YtjneekkjmjhofaaDoorCrcI
import Derived.Test.YtjneekkjmjhofaaDoorRowsC
namespace Go.Proofs.YtjneekkjmjhofaaDoor.CrcC
set_option linter.unusedVariables false
open Go.RowKit Go.Proofs.YtjneekkjmjhofaaDoor.NumC Go.Proofs.YtjneekkjmjhofaaDoor.RowsC

def modC (k m : Int) : Int := k.tmod m % m
theorem modC_bd (k : Int) {m : Int} (hm : 0 < m) : 0 ≤ modC k m ∧ modC k m < m := ⟨Int.emod_nonneg _ (by omega), Int.emod_lt_of_pos _ hm⟩
set_option maxHeartbeats 400000 in
theorem kMod (k m : Int) (w : World) (hk : I64 k) (hm : 0 < m) (hm1 : m ≤ 1000000000) :
    Calls Tryd.prog 12 #[.int .i64 k, .int .i64 m] w fun e w' => e = .returned (.int .i64 (modC k m)) ∧ w = w' := by
  have h1 : ¬ m < 1 := by omega
  have b1 : (m == 0) = false := beq_eq_false_iff_ne.2 (by omega)
  have b2 : (m == -1) = false := beq_eq_false_iff_ne.2 (by omega)
  have t := Int.tmod_lt_of_pos k hm
  have t2 : -m < k.tmod m := by
    by_cases h : 0 ≤ k
    · have := Int.tmod_nonneg m h; omega
    · have h5 : (-k).tmod m < m := Int.tmod_lt_of_pos _ hm
      rw [Int.neg_tmod] at h5; omega
  go_enter Tryd.func12, Tryd.ntmps12
  go_wp2
  go_ret
  exact ⟨rfl, rfl⟩
theorem lay_shift (x i d : Nat) : (x ^^^ 2 ^ i) * 2 ^ d = (x * 2 ^ d) ^^^ 2 ^ (d + i) := by
  rw [← Nat.shiftLeft_eq, Nat.shiftLeft_xor_distrib, Nat.shiftLeft_eq, Nat.shiftLeft_eq, ← Nat.pow_add, Nat.add_comm i d]
theorem xor8 (x : UInt8) (r : Nat) (hr : r < 8) : bits .xor .u8 (x.toNat : Int) (2 ^ r % 256) = ((UInt8.ofNat (x.toNat ^^^ 2 ^ r)).toNat : Int) := by
  have key : ∀ n : Fin 256, ∀ r : Fin 8, bits .xor .u8 (n.val : Int) (2 ^ r.val % 256) = ((UInt8.ofNat (n.val ^^^ 2 ^ r.val)).toNat : Int) := by decide +kernel
  exact key ⟨x.toNat, x.toNat_lt⟩ ⟨r, hr⟩
theorem xor8_nat (x : UInt8) (r : Nat) (hr : r < 8) : (UInt8.ofNat (x.toNat ^^^ 2 ^ r)).toNat = x.toNat ^^^ 2 ^ r := by
  have h2 : 2 ^ r < 2 ^ 8 := Nat.pow_lt_pow_right (by decide) hr
  have : x.toNat ^^^ 2 ^ r < 2 ^ 8 := Nat.xor_lt_two_pow x.toNat_lt h2
  rw [UInt8.toNat_ofNat']; exact Nat.mod_eq_of_lt this
/-- The bytes so far: turned by the low bits of f from d on. -/
def TurnedTo (l : List UInt8) (f d i : Nat) (m : List UInt8) : Prop := m.length = l.length ∧ numN m = numN l ^^^ ((f % 2 ^ i) * 2 ^ d)
theorem TurnedTo.zero (l : List UInt8) (f d : Nat) : TurnedTo l f d 0 l := ⟨rfl, by rw [Nat.pow_zero, Nat.mod_one, Nat.zero_mul, Nat.xor_zero]⟩
theorem TurnedTo.stay {l m : List UInt8} {f d i : Nat} (h : TurnedTo l f d i m) (hb : f / 2 ^ i % 2 = 0) : TurnedTo l f d (i + 1) m := ⟨h.1, by
  rw [flip_step, if_neg (by omega), Nat.xor_zero]; exact h.2⟩
theorem TurnedTo.put {l m : List UInt8} {f d i k r : Nat} {x y : UInt8} (h : TurnedTo l f d i m) (hb : f / 2 ^ i % 2 = 1) (hk : m[k]? = some x) (hr : r < 8) (hd : d + i = 8 * k + r) (hy : y.toNat = x.toNat ^^^ 2 ^ r) : TurnedTo l f d (i + 1) (m.set k y) := ⟨by rw [List.length_set]; exact h.1, by
  rw [num_set m k r x hk hr y hy, h.2, flip_step, if_pos hb, lay_shift, ← hd, Nat.xor_assoc]⟩
theorem flip_on {f i : Nat} (hb : f / 2 ^ i % 2 = 1) : f % 2 ^ (i + 1) ≠ 0 := by
  rw [Nat.pow_succ, Nat.mod_mul, hb]
  have := Nat.pow_pos (n := i) (show 0 < 2 by decide)
  omega
theorem flip_off {f i : Nat} (hb : f / 2 ^ i % 2 = 0) : f % 2 ^ (i + 1) = f % 2 ^ i := by
  rw [Nat.pow_succ, Nat.mod_mul, hb]; omega
set_option maxHeartbeats 4000000 in
theorem crcTurned {K : World → Prop} (I : CodeC K) (s : ByteArray) (a : Int) (f : Nat) (w : World) (ha : I64 a) (hf : f < 4294967296) (hK : K w) :
    Calls Tryd.prog 5 #[.string s, .int .i64 a, .int .u32 (f : Nat)] w fun e w' => e = .returned (.bool true) ∧ Below w.heap.size w w' := by
  have HI := Lib.hid I
  have HK := Lib.hid hK
  by_cases hs : 20000 < s.size
  · have hd : (20000 : Int) < (s.size : Int) := by omega
    have hc := cwakes I w hK
    clear I hK
    go_enter Tryd.func5, Tryd.ntmps5
    go_wp2_with fail
    refine hc.mono ?_; rintro e w1 ⟨rfl, hb1⟩
    clear hc
    go_wp2_with fail
    go_ret
    exact ⟨rfl, hb1⟩
  · have hd : ¬ (20000 : Int) < (s.size : Int) := by omega
    by_cases h0 : s.size = 0
    · have hd0 : ((s.size : Int) == 0) = true := by rw [h0]; rfl
      have hc := cwakes I w hK
      clear I hK
      go_enter Tryd.func5, Tryd.ntmps5
      go_wp2_with fail
      refine hc.mono ?_; rintro e w1 ⟨rfl, hb1⟩
      clear hc
      go_wp2_with fail
      go_ret
      exact ⟨rfl, hb1⟩
    · have hd0 : ((s.size : Int) == 0) = false := beq_eq_false_iff_ne.2 (by omega)
      obtain ⟨cp, W0, HC, hu0, hb0⟩ := bytes_list w s
      have HU := Lib.hid hu0
      have HB0 := Lib.hid hb0
      have hm1 : IntKind.i64.wrap (8 * (s.size : Int)) = 8 * (s.size : Int) := by rw [IntKind.wrap_i64]; omega
      have hcall := kMod a (8 * (s.size : Int)) W0 ha (by omega) (by omega)
      have hbd := modC_bd a (show 0 < 8 * (s.size : Int) by omega)
      obtain ⟨d, hdd⟩ : ∃ d : Nat, modC a (8 * (s.size : Int)) = d := ⟨(modC a (8 * (s.size : Int))).toNat, by omega⟩
      rw [hdd] at hcall hbd
      have hdl : d < 8 * s.size := by omega
      clear hu0 hb0 hdd hbd I hK
      go_enter Tryd.func5, Tryd.ntmps5
      go_wp2_with fail
      refine hcall.mono ?_; rintro e w1 ⟨rfl, rfl⟩
      clear hcall HC
      go_wp2_with fail
      go_loopw [9, 10] (fun tv iv wr => ∃ (i : Nat) (m : List UInt8), i ≤ 32 ∧ i ≤ 8 * s.size - d ∧ tv = .bool (decide (f % 2 ^ i ≠ 0)) ∧ iv = .int .i64 i ∧ Hid (TurnedTo s.data.toList f d i m ∧ BAt wr w.heap.size m ∧ Below w.heap.size w wr)) (fun tv iv _ => 32 - (intOf iv).toNat)
      case atStart => exact ⟨0, s.data.toList, by omega, by omega, by rw [Nat.pow_zero, Nat.mod_one]; rfl, rfl, Lib.hid ⟨TurnedTo.zero _ _ _, HU.out, HB0.out⟩⟩
      case round =>
        obtain ⟨i, m, hi, hi2, rfl, rfl, HR⟩ := hrel
        by_cases hlt : i < 32 ∧ d + i < 8 * s.size
        · obtain ⟨hl1, hl2⟩ := hlt
          have hd1 : (i : Int) < 32 := by omega
          have hd2 : (d : Int) + (i : Int) < 8 * (s.size : Int) := by omega
          have hwr : IntKind.i64.wrap ((d : Int) + (i : Int)) = (d : Int) + (i : Int) := by rw [IntKind.wrap_i64]; omega
          obtain ⟨q, hq⟩ : ∃ q, q = f / 2 ^ i % 2 := ⟨_, rfl⟩
          have hq2 : q < 2 := by omega
          have f2 := low32 (f / 2 ^ i) ((f : Int) / 2 ^ i) (by push_cast; rfl) (Nat.lt_of_le_of_lt (Nat.div_le_self _ _) hf)
          rw [← hq] at f2
          have g2 : IntKind.u64.wrap (i : Int) = (i : Int) := by rw [IntKind.wrap_u64]; omega
          have hmz : m.length = s.size := HR.out.1.1
          by_cases h1 : q = 1
          · have d1 : ((q : Int) == 1) = true := by rw [h1]; rfl
            obtain ⟨k, hk⟩ : ∃ k, k = (d + i) / 8 := ⟨_, rfl⟩
            obtain ⟨r, hr⟩ : ∃ r, r = (d + i) % 8 := ⟨_, rfl⟩
            have hk8 : ((d : Int) + (i : Int)) / 8 = (k : Int) := by omega
            have hr8 : ((d : Int) + (i : Int)) % 8 = (r : Int) := by omega
            have hkm : k < m.length := by omega
            have hr7 : r < 8 := by omega
            have hki : (k : Int) < (s.size : Int) := by omega
            have c0 := HR.out.2.1.cell k hkm
            have z0 := HR.out.2.1.soft k hkm
            have g3 : IntKind.u64.wrap (r : Int) = (r : Int) := by rw [IntKind.wrap_u64]; omega
            have HX := Lib.hid (And.intro (xor8_nat m[k] r hr7) (show d + i = 8 * k + r by omega))
            have HM := Lib.hid (show m[k]? = some m[k] from List.getElem?_eq_getElem hkm)
            have f3 := xor8 m[k] r hr7
            have HS := HR.out.2.1.set k hkm (UInt8.ofNat (m[k].toNat ^^^ 2 ^ r))
            have HQ := Lib.hid (hq.symm.trans h1)
            generalize m[k] = x at *
            generalize UInt8.ofNat (x.toNat ^^^ 2 ^ r) = y at *
            have HS9 := Lib.hid HS
            clear hq h1 hk hr HS
            go_wp2_with fail
            go_roundw
            case rel =>
              refine ⟨i + 1, m.set k y, by omega, by omega, ?_, by go_num, Lib.hid ⟨HR.out.1.put HQ.out HM.out hr7 HX.out.2 HX.out.1, by first | exact HS9.out | (rw [f3]; exact HS9.out), HR.out.2.2.setCell (Nat.le_refl _) _⟩⟩
              rw [decide_eq_true (flip_on HQ.out)]
            case measure => simp [intOf]; omega
          · have h1 : q = 0 := by omega
            have d1 : ((q : Int) == 1) = false := by rw [h1]; rfl
            have HQ := Lib.hid (hq.symm.trans h1)
            clear hq h1
            go_wp2_with fail
            go_roundw
            case rel =>
              refine ⟨i + 1, m, by omega, by omega, ?_, by go_num, Lib.hid ⟨HR.out.1.stay HQ.out, HR.out.2.1, HR.out.2.2⟩⟩
              rw [flip_off HQ.out]
            case measure => simp [intOf]; omega
        · have hz : m.length = s.size := HR.out.1.1
          have HCB := run_convert_bytes_back (P := Tryd.prog) wr 29 9 5 ⟨w.heap.size, 0, none⟩ cp m Tryd.underlying29 Tryd.underlying5 Tryd.underlying9 (fun j hj => by
            rw [off_add]; exact HR.out.2.1.cell j hj)
          rw [hz] at HCB
          have KR := Lib.hid (HI.out.keep HK.out HR.out.2.2)
          have BR := Lib.hid HR.out.2.2
          have c1 := HI.out.sum ⟨m.toArray⟩ wr KR.out (show m.toArray.size ≤ 20000 by simp; omega)
          rw [show (ByteArray.mk m.toArray).data.toList = m from List.toList_toArray] at c1
          have C2 := Lib.hid (fun w (h : K w) => HI.out.sum s w h (by omega))
          have hT := turned_unlike s.data.toList m hz.symm d (f % 2 ^ i) (by show d ≤ 8 * s.size; omega) (Nat.lt_of_le_of_lt (Nat.mod_le _ _) hf) (by
            refine Nat.lt_of_lt_of_le (Nat.mod_lt _ (Nat.pow_pos (by decide))) (Nat.pow_le_pow_right (by decide) (show i ≤ 8 * s.size - d from hi2))) HR.out.1.2
          generalize sumN m = u at *
          generalize sumN s.data.toList = v at *
          have hx : ∀ z : Bool, (z = decide (f % 2 ^ i ≠ 0)) → ((((u : Int) != (v : Int)) == z) = true) := by
            intro z hz
            subst hz
            rw [beq_iff_eq]
            by_cases e : f % 2 ^ i = 0
            · rw [decide_eq_false (by simpa using e), show u = v from hT.2 e]; exact bne_self_eq_false _
            · rw [decide_eq_true e, bne_iff_ne]; intro e2; exact e (hT.1 (by omega))
          obtain ⟨z, hz9⟩ : ∃ z, z = decide (f % 2 ^ i ≠ 0) := ⟨_, rfl⟩
          have hx := hx z hz9
          rw [← hz9]
          have HX := Lib.hid hx
          clear hT hz9 hx
          by_cases hl1 : i < 32
          · have hd1 : (i : Int) < 32 := by omega
            have hd2 : ¬ (d : Int) + (i : Int) < 8 * (s.size : Int) := by omega
            have hwr : IntKind.i64.wrap ((d : Int) + (i : Int)) = (d : Int) + (i : Int) := by rw [IntKind.wrap_i64]; omega
            go_wp2_with fail
            refine c1.mono ?_; rintro e w3 ⟨rfl, hb3⟩
            have K3 := Lib.hid (HI.out.keep KR.out hb3)
            have B3 := Lib.hid (BR.out.trans (hb3.mono BR.out.size))
            clear hb3 c1
            go_wp2_with fail
            refine (C2.out w3 K3.out).mono ?_; rintro e w4 ⟨rfl, hb4⟩
            have K4 := Lib.hid (HI.out.keep K3.out hb4)
            have B4 := Lib.hid (B3.out.trans (hb4.mono B3.out.size))
            have hx := HX.out
            clear hb4
            go_wp2_with fail
            refine (cwakes HI.out w4 K4.out).mono ?_; rintro e w5 ⟨rfl, hb5⟩
            have B5 := Lib.hid (B4.out.trans (hb5.mono B4.out.size))
            clear hb5
            go_wp2_with fail
            go_ret
            exact ⟨rfl, B5.out⟩
          · have hd1 : ¬ (i : Int) < 32 := by omega
            go_wp2_with fail
            refine c1.mono ?_; rintro e w3 ⟨rfl, hb3⟩
            have K3 := Lib.hid (HI.out.keep KR.out hb3)
            have B3 := Lib.hid (BR.out.trans (hb3.mono BR.out.size))
            clear hb3 c1
            go_wp2_with fail
            refine (C2.out w3 K3.out).mono ?_; rintro e w4 ⟨rfl, hb4⟩
            have K4 := Lib.hid (HI.out.keep K3.out hb4)
            have B4 := Lib.hid (B3.out.trans (hb4.mono B3.out.size))
            have hx := HX.out
            clear hb4
            go_wp2_with fail
            refine (cwakes HI.out w4 K4.out).mono ?_; rintro e w5 ⟨rfl, hb5⟩
            have B5 := Lib.hid (B4.out.trans (hb5.mono B4.out.size))
            clear hb5
            go_wp2_with fail
            go_ret
            exact ⟨rfl, B5.out⟩
end Go.Proofs.YtjneekkjmjhofaaDoor.CrcC
