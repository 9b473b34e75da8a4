/-
  The landed code's sums: contracts of Next, Sum, shift, times, shifts, Join; they are what the laws take them to be.
-/
import Derived.Test.YtjneekkjmjhofaaDoorCrcP
import Derived.Test.YtjneekkjmjhofaaDoorCrcI
namespace Go.Proofs.YtjneekkjmjhofaaDoor.CrcC
set_option linter.unusedVariables false
open Go.RowKit Go.Proofs.YtjneekkjmjhofaaDoor.NumC

/-- The table of four bits as its text lays it. -/
def KFours (w : World) : Prop := ∀ j, j < 16 → w.cell? ⟨0, j, none⟩ = some (.int .u32 (foursL.getD j 0 : Nat))
theorem KFours.below {w w' : World} (h : KFours w) (hb : Below w.heap.size w w') : KFours w' := fun j hj =>
  (hb.cell (p := ⟨_, j, none⟩) (World.block_lt_of_cell? w _ (h j hj))).trans (h j hj)
theorem low15 (x : Nat) (X : Int) (hX : X = x) (hx : x < 4294967296) : Op.intBits .and .u32 X 15 = pure (.int .u32 ((x % 16 : Nat) : Int)) := by
  subst hX
  show (pure (.int .u32 (IntKind.u32.wrap ((BitVec.ofInt 32 (x : Int) &&& BitVec.ofInt 32 15).toNat : Int))) : Sem Value) = _
  have h2 : (BitVec.ofInt 32 (15 : Int)).toNat = 2 ^ 4 - 1 := by decide
  rw [BitVec.toNat_and, ofInt32 x hx, h2, Nat.and_two_pow_sub_one_eq_mod]
  congr 2
  rw [IntKind.wrap_u32]; omega
theorem low64 (x : Nat) (hx : x ≤ 9223372036854775807) : Op.intBits .and .i64 (x : Int) 1 = pure (.int .i64 ((x % 2 : Nat) : Int)) := by
  show (pure (.int .i64 (IntKind.i64.wrap ((BitVec.ofInt 64 (x : Int) &&& BitVec.ofInt 64 1).toNat : Int))) : Sem Value) = _
  have h2 : (BitVec.ofInt 64 (1 : Int)).toNat = 2 ^ 1 - 1 := by decide
  have h1 : (BitVec.ofInt 64 (x : Int)).toNat = x := by
    rw [BitVec.toNat_ofInt]
    have : ((2 ^ 64 : Nat) : Int) = 18446744073709551616 := rfl
    rw [this]
    omega
  rw [BitVec.toNat_and, h1, h2, Nat.and_two_pow_sub_one_eq_mod]
  congr 2
  rw [IntKind.wrap_i64]; omega
set_option maxHeartbeats 1000000 in
theorem cNext (a : Nat) (b : UInt8) (w : World) (ha : a < 4294967296) (hK : KFours w) :
    Calls Tryd.prog 9 #[.int .u32 (a : Nat), .int .u8 (b.toNat : Nat)] w fun e w' => e = .returned (.int .u32 (nextN a b : Nat)) ∧ w = w' := by
  have hsg : IntKind.u32.signed = false := rfl
  have hb8 := b.toNat_lt
  have E := Lib.hid (next_fours a b)
  generalize nextN a b = N at *
  obtain ⟨x, hx⟩ : ∃ x, x = b.toNat := ⟨_, rfl⟩
  rw [← hx] at E hb8 ⊢
  have ht := turn_lt ha
  have f0 := turn32 a (a : Int) rfl ha
  generalize turnN a = t at *
  have f1 := xor32 t x (t : Int) (x : Int) rfl rfl ht (by omega)
  have hc := xor_lt ht (show x < 4294967296 by omega)
  generalize t ^^^ x = c at *
  have hw : IntKind.u32.wrap (x : Int) = (x : Int) := by rw [IntKind.wrap_u32]; omega
  have f2 := low15 c (c : Int) rfl hc
  have k2 := hK (c % 16) (Nat.mod_lt _ (by decide))
  have l2 := fours_lt (c % 16) (Nat.mod_lt _ (by decide))
  have hm2 : c % 16 < 16 := Nat.mod_lt _ (by decide)
  have f3 := xor32 (c / 16) (foursL.getD (c % 16) 0) ((c : Int) / 16) _ (by omega) rfl (by omega) l2
  have hd : fourN c = c / 16 ^^^ foursL.getD (c % 16) 0 := rfl
  rw [← hd] at f3
  generalize foursL.getD (c % 16) 0 = y at *
  have hdl := four_lt hc
  generalize fourN c = d at *
  generalize c % 16 = cm at *
  have f4 := low15 d (d : Int) rfl hdl
  have k4 := hK (d % 16) (Nat.mod_lt _ (by decide))
  have l4 := fours_lt (d % 16) (Nat.mod_lt _ (by decide))
  have hm4 : d % 16 < 16 := Nat.mod_lt _ (by decide)
  have f5 := xor32 (d / 16) (foursL.getD (d % 16) 0) ((d : Int) / 16) _ (by omega) rfl (by omega) l4
  have hg : fourN d = d / 16 ^^^ foursL.getD (d % 16) 0 := rfl
  rw [← hg] at f5
  generalize foursL.getD (d % 16) 0 = z at *
  have hgl := four_lt hdl
  generalize fourN d = g at *
  generalize d % 16 = dm at *
  have f6 := turn32 g (g : Int) rfl hgl
  clear hx hg hd hK
  have i1 : (cm : Int) < 16 := by omega
  have i2 : (0 : Int) ≤ (cm : Int) := by omega
  have i3 : (dm : Int) < 16 := by omega
  have i4 : (0 : Int) ≤ (dm : Int) := by omega
  clear hm2 hm4 hb8 ht ha
  go_enter Tryd.func9, Tryd.ntmps9
  go_wp2_with fail
  go_ret
  exact ⟨by rw [E.out]; rfl, rfl⟩
theorem sum_take (s : ByteArray) (k : Nat) (h : k < s.size) : sumN (s.data.toList.take (k + 1)) = nextN (sumN (s.data.toList.take k)) s[k] := by
  have e : s.data.toList.take (k + 1) = s.data.toList.take k ++ [s[k]] := by
    rw [List.take_add_one, List.getElem?_eq_getElem (show k < s.data.toList.length from h)]; rfl
  rw [e, sum_next]
set_option maxHeartbeats 1000000 in
set_option maxRecDepth 100000 in
theorem cSum (s : ByteArray) (w : World) (hK : KFours w) (hs : s.size ≤ 1000000000) :
    Calls Tryd.prog 7 #[.string s] w fun e w' => e = .returned (.int .u32 (sumN s.data.toList : Nat)) ∧ w = w' := by
  have HK := Lib.hid hK
  go_enter Tryd.func7, Tryd.ntmps7
  go_wp2
  go_loopw [3, 7] (fun cv iv wr => ∃ k c1 : Nat, k ≤ s.size ∧ c1 < 4294967296 ∧ cv = .int .u32 (c1 : Nat) ∧ iv = .int .i64 k ∧ w = wr ∧ Hid (c1 = sumN (s.data.toList.take k))) (fun cv iv _ => s.size - (intOf iv).toNat)
  case atStart => exact ⟨0, 0, Nat.zero_le _, by decide, rfl, rfl, rfl, Lib.hid (by rw [List.take_zero]; decide)⟩
  case round =>
    obtain ⟨k, c1, hk, hc1, rfl, rfl, hw, HR⟩ := hrel
    subst hw
    by_cases hlt : k < s.size
    · have hd1 : (k : Int) < (s.size : Int) := by omega
      have HS := Lib.hid (sum_take s k hlt)
      have hn := sum_lt (s.data.toList.take (k + 1))
      have C := cNext c1 s[k] w hc1 HK.out
      have HN : Hid (nextN c1 s[k] = sumN (s.data.toList.take (k + 1))) := Lib.hid (by rw [HS.out, HR.out])
      generalize nextN c1 s[k] = c2 at *
      rw [← HN.out] at hn
      clear HS
      go_wp2_with fail
      refine C.mono ?_; rintro e w1 ⟨rfl, rfl⟩
      clear C
      go_wp2_with fail
      go_roundw
      case rel => exact ⟨k + 1, c2, by omega, hn, rfl, by go_num, trivial, HN⟩
      case measure => simp [intOf]; omega
    · have hd1 : ¬ (k : Int) < (s.size : Int) := by omega
      obtain rfl : k = s.size := by omega
      go_wp2_with fail
      go_ret
      have h := HR.out
      rw [List.take_of_length_le (by exact Nat.le_refl _)] at h
      exact ⟨by rw [← h]; rfl, rfl⟩
set_option maxHeartbeats 1000000 in
theorem cshift (c : Nat) (w : World) (hc : c < 4294967296) :
    Calls Tryd.prog 16 #[.int .u32 (c : Nat)] w fun e w' => e = .returned (.int .u32 (bitN c 0 : Nat)) ∧ w = w' := by
  have hsg : IntKind.u32.signed = false := rfl
  have f1 := low32 c (c : Int) rfl hc
  rcases Nat.mod_two_eq_zero_or_one c with h | h
  · have E := Lib.hid (bit_off (c := c) (b := 0) (by decide) h)
    rw [h] at f1
    clear h
    go_enter Tryd.func16, Tryd.ntmps16
    go_wp2_with fail
    go_ret
    exact ⟨by rw [E.out]; rfl, rfl⟩
  · have E := Lib.hid (bit_on (c := c) (b := 0) (by decide) (by omega))
    have f3 := xor32 (c / 2) polN ((c : Int) / 2) 3988292384 (by omega) rfl (by omega) pol_lt
    rw [h] at f1
    generalize c / 2 ^^^ polN = d at *
    clear h
    go_enter Tryd.func16, Tryd.ntmps16
    go_wp2_with fail
    go_ret
    exact ⟨by rw [E.out]; rfl, rfl⟩
set_option maxHeartbeats 1000000 in
set_option maxRecDepth 100000 in
theorem ctimes (p q : Nat) (w : World) (hp : p < 4294967296) (hq : q < 4294967296) :
    Calls Tryd.prog 14 #[.int .u32 (p : Nat), .int .u32 (q : Nat)] w fun e w' => e = .returned (.int .u32 (timesN p q : Nat)) ∧ w = w' := by
  have hsg : IntKind.u32.signed = false := rfl
  obtain ⟨T, hT⟩ : ∃ T, T = timesN p q := ⟨_, rfl⟩
  rw [← hT]
  have HT := Lib.hid hT
  clear hT
  go_enter Tryd.func14, Tryd.ntmps14
  go_wp2
  go_loopw [0, 5, 6] (fun pv cv iv wr => ∃ k c1 p1 : Nat, k ≤ 32 ∧ c1 < 4294967296 ∧ p1 < 4294967296 ∧ pv = .int .u32 (p1 : Nat) ∧ cv = .int .u32 (c1 : Nat) ∧ iv = .int .i64 k ∧ w = wr ∧ Hid (mulN (32 - k) c1 p1 q = T)) (fun pv cv iv _ => 32 - (intOf iv).toNat)
  case atStart => exact ⟨0, 0, p, Nat.zero_le _, by decide, hp, rfl, rfl, rfl, rfl, Lib.hid HT.out.symm⟩
  case round =>
    obtain ⟨k, c1, p1, hk, hc1, hp1, rfl, rfl, rfl, hw, HR⟩ := hrel
    subst hw
    by_cases hlt : k < 32
    · have hd1 : (k : Int) < 32 := by omega
      have C := cshift c1 w hc1
      have hd := bit_lt hc1 0
      have HS : Hid (mulN (32 - (k + 1)) (bitN c1 0 ^^^ (if p1 % 2 = 1 then q else 0)) (p1 / 2) q = T) := Lib.hid (by
        have h := HR.out
        rw [show 32 - k = (32 - (k + 1)) + 1 by omega] at h
        exact h)
      generalize bitN c1 0 = d at *
      have f1 := low32 p1 (p1 : Int) rfl hp1
      rcases Nat.mod_two_eq_zero_or_one p1 with h | h
      · rw [h] at f1
        have HQ : Hid (mulN (32 - (k + 1)) d (p1 / 2) q = T) := Lib.hid (by
          have h' := HS.out
          rw [if_neg (by omega), Nat.xor_zero] at h'; exact h')
        clear h HS HR
        go_wp2_with fail
        refine C.mono ?_; rintro e w1 ⟨rfl, rfl⟩
        clear C
        go_wp2_with fail
        go_roundw
        case rel => exact ⟨k + 1, d, p1 / 2, by omega, hd, by omega, by first | rfl | (congr 1), rfl, by go_num, trivial, HQ⟩
        case measure => simp [intOf]; omega
      · rw [h] at f1
        have f3 := xor32 d q (d : Int) (q : Int) rfl rfl hd hq
        have hx := xor_lt hd hq
        have HQ : Hid (mulN (32 - (k + 1)) (d ^^^ q) (p1 / 2) q = T) := Lib.hid (by
          have h' := HS.out
          rw [if_pos h] at h'; exact h')
        generalize d ^^^ q = g at *
        clear h HS HR
        go_wp2_with fail
        refine C.mono ?_; rintro e w1 ⟨rfl, rfl⟩
        clear C
        go_wp2_with fail
        go_roundw
        case rel => exact ⟨k + 1, g, p1 / 2, by omega, hx, by omega, by first | rfl | (congr 1), rfl, by go_num, trivial, HQ⟩
        case measure => simp [intOf]; omega
    · have hd1 : ¬ (k : Int) < 32 := by omega
      obtain rfl : k = 32 := by omega
      go_wp2_with fail
      go_ret
      have h : c1 = T := HR.out
      exact ⟨by rw [← h]; rfl, rfl⟩
set_option maxHeartbeats 1000000 in
set_option maxRecDepth 100000 in
theorem cshifts (n : Nat) (w : World) (hn : n ≤ 9223372036854775807) :
    Calls Tryd.prog 15 #[.int .i64 (n : Nat)] w fun e w' => e = .returned (.int .u32 (powN (8 * n) : Nat)) ∧ w = w' := by
  obtain ⟨T, hT⟩ : ∃ T, T = powN (8 * n) := ⟨_, rfl⟩
  rw [← hT]
  have HT := Lib.hid hT
  clear hT
  go_enter Tryd.func15, Tryd.ntmps15
  go_wp2
  go_loopw [0, 3, 4] (fun nv pv sv wr => ∃ m p1 s1 : Nat, m ≤ 9223372036854775807 ∧ p1 < 4294967296 ∧ s1 < 4294967296 ∧ nv = .int .i64 m ∧ pv = .int .u32 (p1 : Nat) ∧ sv = .int .u32 (s1 : Nat) ∧ w = wr ∧ Hid (∃ k j, p1 = powN (8 * k) ∧ s1 = powN (8 * j) ∧ k + j * m = n)) (fun nv _ _ _ => (intOf nv).toNat)
  case atStart => exact ⟨n, 2147483648, 8388608, hn, by decide, by decide, rfl, rfl, rfl, rfl, Lib.hid ⟨0, 1, rfl, pow_eight.symm, by omega⟩⟩
  case round =>
    obtain ⟨m, p1, s1, hm, hp1, hs1, rfl, rfl, rfl, hw, HR⟩ := hrel
    subst hw
    by_cases hlt : 0 < m
    · have hd1 : (m : Int) > 0 := by omega
      have C2 := ctimes s1 s1 w hs1 hs1
      have h2 := times_lt (p := s1) hs1
      have f1 := low64 m hm
      rcases Nat.mod_two_eq_zero_or_one m with h | h
      · rw [h] at f1
        have HQ : Hid (∃ k j, p1 = powN (8 * k) ∧ timesN s1 s1 = powN (8 * j) ∧ k + j * (m / 2) = n) := Lib.hid (by
          obtain ⟨k, j, h1, h2, h3⟩ := HR.out
          refine ⟨k, j + j, h1, by rw [h2, pow_add, Nat.mul_add], ?_⟩
          rw [← h3, ← Nat.mul_two, Nat.mul_assoc, show 2 * (m / 2) = m by omega])
        generalize timesN s1 s1 = s2 at *
        clear h HR
        go_wp2_with fail
        refine C2.mono ?_; rintro e w1 ⟨rfl, rfl⟩
        clear C2
        go_wp2_with fail
        go_roundw
        case rel => exact ⟨m / 2, p1, s2, by omega, hp1, h2, by first | rfl | (congr 1), rfl, rfl, trivial, HQ⟩
        case measure => simp [intOf]; omega
      · rw [h] at f1
        have C1 := ctimes p1 s1 w hp1 hs1
        have h1 := times_lt (p := p1) hs1
        have HQ : Hid (∃ k j, timesN p1 s1 = powN (8 * k) ∧ timesN s1 s1 = powN (8 * j) ∧ k + j * (m / 2) = n) := Lib.hid (by
          obtain ⟨k, j, h1, h2, h3⟩ := HR.out
          refine ⟨k + j, j + j, by rw [h1, h2, pow_add, Nat.mul_add], by rw [h2, pow_add, Nat.mul_add], ?_⟩
          have e : m = 2 * (m / 2) + 1 := by omega
          rw [← h3]
          conv => rhs; rw [e, Nat.mul_add, Nat.mul_one, ← Nat.mul_assoc, Nat.mul_two]
          omega)
        generalize timesN s1 s1 = s2 at *
        generalize timesN p1 s1 = p2 at *
        clear h HR
        go_wp2_with fail
        refine C1.mono ?_; rintro e w1 ⟨rfl, rfl⟩
        clear C1
        go_wp2_with fail
        refine C2.mono ?_; rintro e w1 ⟨rfl, rfl⟩
        clear C2
        go_wp2_with fail
        go_roundw
        case rel => exact ⟨m / 2, p2, s2, by omega, h1, h2, by first | rfl | (congr 1), rfl, rfl, trivial, HQ⟩
        case measure => simp [intOf]; omega
    · have hd1 : ¬ (m : Int) > 0 := by omega
      obtain rfl : m = 0 := by omega
      go_wp2_with fail
      go_ret
      have h : p1 = T := by
        obtain ⟨k, j, h1, h2, h3⟩ := HR.out
        rw [h1, HT.out, ← h3, Nat.mul_zero, Nat.add_zero]
      exact ⟨by rw [← h]; rfl, rfl⟩
set_option maxHeartbeats 1000000 in
theorem cJoin (a b n : Nat) (w : World) (ha : a < 4294967296) (hb : b < 4294967296) (hn : n ≤ 9223372036854775807) :
    Calls Tryd.prog 11 #[.int .u32 (a : Nat), .int .u32 (b : Nat), .int .i64 n] w fun e w' => e = .returned (.int .u32 (joinN a b n : Nat)) ∧ w = w' := by
  have hd : ¬ (n : Int) < 0 := by omega
  have C1 := cshifts n w hn
  have C2 := ctimes (powN (8 * n)) a w (pow_lt _) ha
  rw [times_join n a ha] at C2
  have hz := zero_lt n ha
  have f := xor32 (zeroN n a) b _ (b : Int) rfl rfl hz hb
  have E : Hid (joinN a b n = zeroN n a ^^^ b) := Lib.hid rfl
  generalize zeroN n a ^^^ b = r at *
  generalize zeroN n a = z at *
  generalize powN (8 * n) = p at *
  go_enter Tryd.func11, Tryd.ntmps11
  go_wp2_with fail
  refine C1.mono ?_; rintro e w1 ⟨rfl, rfl⟩
  clear C1
  go_wp2_with fail
  refine C2.mono ?_; rintro e w1 ⟨rfl, rfl⟩
  clear C2
  go_wp2_with fail
  go_ret
  exact ⟨by rw [E.out]; rfl, rfl⟩
set_option maxHeartbeats 1000000 in
theorem cJoin_none (a b : Nat) (n : Int) (w : World) (hn : n < 0) :
    Calls Tryd.prog 11 #[.int .u32 (a : Nat), .int .u32 (b : Nat), .int .i64 n] w fun e w' => e = .returned (.int .u32 0) ∧ w = w' := by
  go_enter Tryd.func11, Tryd.ntmps11
  go_wp2_with fail
  go_ret
  exact ⟨rfl, rfl⟩
theorem codeC : CodeC KFours where
  keep h hb := h.below hb
  sum s w hK hs := (cSum s w hK (by omega)).mono fun e w' ⟨he, hw⟩ => by subst hw; exact ⟨he, Below.refl _ _⟩
  next a b w hK ha := (cNext a b w ha hK).mono fun e w' ⟨he, hw⟩ => by subst hw; exact ⟨he, Below.refl _ _⟩
  join a b n w _ ha hb hn := (cJoin a b n w ha hb (by omega)).mono fun e w' ⟨he, hw⟩ => by subst hw; exact ⟨he, Below.refl _ _⟩
  none a b n w _ _ _ hn _ := (cJoin_none a b n w hn).mono fun e w' ⟨he, hw⟩ => by subst hw; exact ⟨he, Below.refl _ _⟩
end Go.Proofs.YtjneekkjmjhofaaDoor.CrcC
