/-
  Numbers of 32 bits as the machine takes them; contracts of crc's reference: through, Sum, Next.
-/
import Derived.Test.YtjneekkjmjhofaaDoorCrcM
import Derived.Test.YtjneekkjmjhofaaDoorNumR
namespace Go.Proofs.YtjneekkjmjhofaaDoor.CrcC
set_option linter.unusedVariables false
open Go.RowKit Go.Proofs.YtjneekkjmjhofaaDoor.NumC

theorem ofInt32 (x : Nat) (hx : x < 4294967296) : (BitVec.ofInt 32 (x : Int)).toNat = x := by
  rw [BitVec.toNat_ofInt]
  have : ((2 ^ 32 : Nat) : Int) = 4294967296 := rfl
  rw [this]
  omega
theorem xor32 (x y : Nat) (X Y : Int) (hX : X = x) (hY : Y = y) (hx : x < 4294967296) (hy : y < 4294967296) : Op.intBits .xor .u32 X Y = pure (.int .u32 ((x ^^^ y : Nat) : Int)) := by
  subst hX hY
  have h : x ^^^ y < 4294967296 := xor_lt hx hy
  show (pure (.int .u32 (IntKind.u32.wrap ((BitVec.ofInt 32 (x : Int) ^^^ BitVec.ofInt 32 (y : Int)).toNat : Int))) : Sem Value) = _
  rw [BitVec.toNat_xor, ofInt32 x hx, ofInt32 y hy]
  congr 2
  rw [IntKind.wrap_u32]; omega
theorem low32 (x : Nat) (X : Int) (hX : X = x) (hx : x < 4294967296) : Op.intBits .and .u32 X 1 = pure (.int .u32 ((x % 2 : Nat) : Int)) := by
  subst hX
  show (pure (.int .u32 (IntKind.u32.wrap ((BitVec.ofInt 32 (x : Int) &&& BitVec.ofInt 32 1).toNat : Int))) : Sem Value) = _
  have h2 : (BitVec.ofInt 32 (1 : Int)).toNat = 2 ^ 1 - 1 := by decide
  rw [BitVec.toNat_and, ofInt32 x hx, h2, Nat.and_two_pow_sub_one_eq_mod]
  congr 2
  rw [IntKind.wrap_u32]; omega
/-- All bits turned. -/
theorem turn32 (x : Nat) (X : Int) (hX : X = x) (hx : x < 4294967296) : Op.intBits .xor .u32 IntKind.u32.max X = pure (.int .u32 ((turnN x : Nat) : Int)) := by
  rw [show IntKind.u32.max = 4294967295 from rfl, xor32 4294967295 x 4294967295 X rfl hX (by decide) hx]
  unfold turnN
  rw [Nat.xor_comm]
theorem drop_at (s : ByteArray) (k : Nat) (h : k < s.size) : s.data.toList.drop k = s[k] :: s.data.toList.drop (k + 1) := by
  rw [List.drop_eq_getElem_cons (by exact h)]; rfl
theorem thru_step (c : Nat) (s : ByteArray) (k : Nat) (h : k < s.size) : thruN c (s.data.toList.drop k) = thruN (byteN c s[k].toNat) (s.data.toList.drop (k + 1)) := by
  rw [drop_at s k h]; rfl
theorem bits_step (m c x : Nat) (hm : m < 8) : bitsN (8 - m) c (x / 2 ^ m) = bitsN (8 - (m + 1)) (bitN c (x / 2 ^ m % 2)) (x / 2 ^ (m + 1)) := by
  rw [show 8 - m = (8 - (m + 1)) + 1 by omega, Nat.pow_succ, ← Nat.div_div_eq_div_mul]; rfl
theorem bit_on {c b : Nat} (hb : b < 2) (h : c % 2 ≠ b) : bitN c b = c / 2 ^^^ polN := by rw [bit_words c b hb, if_pos h]
theorem bit_off {c b : Nat} (hb : b < 2) (h : c % 2 = b) : bitN c b = c / 2 := by rw [bit_words c b hb, if_neg (by omega)]
set_option maxHeartbeats 1000000 in
set_option maxRecDepth 100000 in
theorem rthrough (c : Nat) (s : ByteArray) (w : World) (hc : c < 4294967296) (hs : s.size ≤ 1000000000) :
    Calls Tryd.prog 13 #[.int .u32 (c : Nat), .string s] w fun e w' => e = .returned (.int .u32 (thruN c s.data.toList : Nat)) ∧ Below w.heap.size w w' := by
  go_enter Tryd.func13, Tryd.ntmps13
  go_wp2
  go_loopw [0, 5] (fun cv iv wr => ∃ k c1 : Nat, k ≤ s.size ∧ c1 < 4294967296 ∧ cv = .int .u32 (c1 : Nat) ∧ iv = .int .i64 k ∧ Hid (Below w.heap.size w wr ∧ thruN c1 (s.data.toList.drop k) = thruN c s.data.toList)) (fun cv iv _ => s.size - (intOf iv).toNat)
  case atStart => exact ⟨0, c, Nat.zero_le _, hc, rfl, rfl, Lib.hid ⟨Below.refl _ _, rfl⟩⟩
  case round =>
    obtain ⟨k, c1, hk, hc1, rfl, rfl, HR⟩ := hrel
    by_cases hlt : k < s.size
    · have hd1 : (k : Int) < (s.size : Int) := by omega
      obtain ⟨x, hx⟩ : ∃ x, x = s[k].toNat := ⟨_, rfl⟩
      have hx8 : x < 256 := by rw [hx]; exact s[k].toNat_lt
      have HS := Lib.hid (thru_step c1 s k hlt)
      rw [← hx] at HS
      go_wp2_with fail
      generalize wr = wz at *
      go_loopw [0, 6] (fun cv mv wr => ∃ m c2 : Nat, m ≤ 8 ∧ c2 < 4294967296 ∧ cv = .int .u32 (c2 : Nat) ∧ mv = .int .i64 m ∧ Hid (Below wz.heap.size wz wr ∧ bitsN (8 - m) c2 (x / 2 ^ m) = byteN c1 x)) (fun cv mv _ => 8 - (intOf mv).toNat)
      case atStart => exact ⟨0, c1, by omega, hc1, rfl, rfl, Lib.hid ⟨Below.refl _ _, by rw [Nat.pow_zero, Nat.div_one]; rfl⟩⟩
      case round =>
        obtain ⟨m, c2, hm, hc2, rfl, rfl, HM⟩ := hrel
        by_cases hm8 : m < 8
        · have hd2 : (m : Int) < 8 := by omega
          have HT := Lib.hid ((bits_step m c2 x hm8).symm.trans HM.out.2)
          obtain ⟨b, hb⟩ : ∃ b, b = x / 2 ^ m % 2 := ⟨_, rfl⟩
          rw [← hb] at HT
          have hb2 : b < 2 := by omega
          have f1 := low32 c2 (c2 : Int) rfl hc2
          have hxm : x / 2 ^ m < 4294967296 := Nat.lt_of_le_of_lt (Nat.div_le_self _ _) (by omega)
          have f2 := low32 (x / 2 ^ m) ((x : Int) / 2 ^ m) (by push_cast; rfl) hxm
          rw [← hb] at f2
          obtain ⟨a, ha⟩ : ∃ a, a = c2 % 2 := ⟨_, rfl⟩
          rw [← ha] at f1
          have g1 : IntKind.u32.wrap (x : Int) = (x : Int) := by rw [IntKind.wrap_u32]; omega
          have g2 : IntKind.u64.wrap (m : Int) = (m : Int) := by rw [IntKind.wrap_u64]; omega
          have hi : ((s[k].toNat : Nat) : Int) = (x : Int) := by rw [hx]
          have HX := Lib.hid hx
          clear hx hxm
          by_cases hab : a = b
          · have d1 : ((a : Int) != (b : Int)) = false := by rw [hab]; exact bne_self_eq_false _
            have HB := Lib.hid (bit_off hb2 (ha.symm.trans hab))
            have HQ : Hid (bitsN (8 - (m + 1)) (c2 / 2) (x / 2 ^ (m + 1)) = byteN c1 x) := Lib.hid (by rw [← HB.out]; exact HT.out)
            clear HT HB hb ha hab
            go_wp2_with fail
            go_roundw
            case rel => exact ⟨m + 1, c2 / 2, by omega, by omega, by first | rfl | (congr 1), by go_num, Lib.hid ⟨HM.out.1, HQ.out⟩⟩
            case measure => simp [intOf]; omega
          · have d1 : ((a : Int) != (b : Int)) = true := by rw [bne_iff_ne]; omega
            have HB := Lib.hid (bit_on hb2 (by rw [← ha]; exact hab))
            have f3 := xor32 (c2 / 2) polN ((c2 : Int) / 2) 3988292384 (by omega) rfl (by omega) pol_lt
            obtain ⟨n, hn⟩ : ∃ n, n = c2 / 2 ^^^ polN := ⟨_, rfl⟩
            have hnl : n < 4294967296 := by rw [hn]; exact xor_lt (by omega) pol_lt
            rw [← hn] at f3
            have HQ : Hid (bitsN (8 - (m + 1)) n (x / 2 ^ (m + 1)) = byteN c1 x) := Lib.hid (by rw [hn, ← HB.out]; exact HT.out)
            clear HT HB hb ha hab hn
            go_wp2_with fail
            go_roundw
            case rel => exact ⟨m + 1, n, by omega, hnl, rfl, by go_num, Lib.hid ⟨HM.out.1, HQ.out⟩⟩
            case measure => simp [intOf]; omega
        · have hd2 : ¬ (m : Int) < 8 := by omega
          obtain rfl : m = 8 := by omega
          have HQ : Hid (Below w.heap.size w wr ∧ thruN c2 (s.data.toList.drop (k + 1)) = thruN c s.data.toList) := Lib.hid ⟨HR.out.1.trans (HM.out.1.mono HR.out.1.size), by
            rw [show c2 = byteN c1 x from HM.out.2, ← HS.out]; exact HR.out.2⟩
          clear hx
          go_wp2_with fail
          go_roundw
          case rel => exact ⟨k + 1, c2, by omega, hc2, rfl, by go_num, HQ⟩
          case measure => simp [intOf]; omega
    · have hd1 : ¬ (k : Int) < (s.size : Int) := by omega
      obtain rfl : k = s.size := by omega
      go_wp2_with fail
      go_ret
      have h := HR.out.2
      rw [List.drop_eq_nil_of_le (by exact Nat.le_refl _)] at h
      exact ⟨by rw [← h]; rfl, HR.out.1⟩
theorem rSum (s : ByteArray) (w : World) (hs : s.size ≤ 1000000000) :
    Calls Tryd.prog 8 #[.string s] w fun e w' => e = .returned (.int .u32 (sumN s.data.toList : Nat)) ∧ Below w.heap.size w w' := by
  have hc := rthrough 4294967295 s w (by decide) hs
  have hl : thruN 4294967295 s.data.toList < 4294967296 := thru_lt (by decide) _
  obtain ⟨t, ht⟩ : ∃ t, t = thruN 4294967295 s.data.toList := ⟨_, rfl⟩
  rw [← ht] at hc hl
  have f1 := turn32 t (t : Int) rfl hl
  have HT := Lib.hid ht
  have hsg : IntKind.u32.signed = false := rfl
  clear ht
  go_enter Tryd.func8, Tryd.ntmps8
  go_wp2_with fail
  refine hc.mono ?_; rintro e w1 ⟨rfl, hb1⟩
  clear hc
  go_wp2_with fail
  go_ret
  exact ⟨by unfold sumN; rw [← HT.out]; rfl, hb1⟩
theorem rNext (a : Nat) (b : UInt8) (w : World) (ha : a < 4294967296) :
    Calls Tryd.prog 10 #[.int .u32 (a : Nat), .int .u8 (b.toNat : Nat)] w fun e w' => e = .returned (.int .u32 (nextN a b : Nat)) ∧ Below w.heap.size w w' := by
  have ht := turn_lt ha
  have f0 := turn32 a (a : Int) rfl ha
  obtain ⟨t, hT⟩ : ∃ t, t = turnN a := ⟨_, rfl⟩
  rw [← hT] at ht f0
  obtain ⟨W, hW⟩ : ∃ W, W = w.alloc (.cells #[.int .u8 (b.toNat : Int)] 5) := ⟨_, rfl⟩
  have hbw : Below w.heap.size w W := by rw [hW]; exact (Below.refl _ w).alloc (Nat.le_refl _) _
  have HB := run_convert_bytes_back (P := Tryd.prog) W 29 9 5 ⟨w.heap.size, 0, none⟩ 1 [b] Tryd.underlying29 Tryd.underlying5 Tryd.underlying9 (fun j hj => by
    have hj0 : j = 0 := by simp at hj; omega
    subst hj0
    rw [hW]
    exact (show (w.alloc (.cells #[.int .u8 (b.toNat : Int)] 5)).cell? ⟨w.heap.size, 0, none⟩ = some (.int .u8 (b.toNat : Int)) by simp [go_sem]))
  have hc := rthrough t ⟨#[b]⟩ W ht (show (1 : Nat) ≤ 1000000000 by decide)
  have hl : thruN t [b] < 4294967296 := thru_lt ht _
  obtain ⟨u, hu⟩ : ∃ u, u = thruN t [b] := ⟨_, rfl⟩
  have hc : Calls Tryd.prog 13 #[.int .u32 (t : Nat), .string ⟨#[b]⟩] W fun e w' => e = .returned (.int .u32 (u : Nat)) ∧ Below W.heap.size W w' := by rw [hu]; exact hc
  rw [← hu] at hl
  have f1 := turn32 u (u : Int) rfl hl
  have HT := Lib.hid (And.intro hT hu)
  have hsg : IntKind.u32.signed = false := rfl
  have hbz := hbw.size
  simp only [List.length_cons, List.length_nil] at HB
  rw [hW] at HB hc
  clear hT hu
  go_enter Tryd.func10, Tryd.ntmps10
  go_wp2_with fail
  refine hc.mono ?_; rintro e w1 ⟨rfl, hb1⟩
  rw [← hW] at hb1
  have B1 := hbw.trans (hb1.mono hbz)
  clear hc HB f0 hb1 hW
  go_wp2_with fail
  go_ret
  exact ⟨by unfold nextN; rw [← HT.out.1, show byteN t b.toNat = thruN t [b] from rfl, ← HT.out.2]; rfl, B1⟩
end Go.Proofs.YtjneekkjmjhofaaDoor.CrcC
