/-
  Contracts of pack's reference.
-/
import Derived.Test.YtflpnpppljalaaaDoorPackM
import Derived.Test.YtflpnpppljalaaaDoorRowsC
import Derived.Test.YtflpnpppljalaaaDoorNumR
namespace Go.Proofs.YtflpnpppljalaaaDoor.PackC
set_option linter.unusedVariables false
open Go.RowKit Go.Proofs.YtflpnpppljalaaaDoor.NumC Go.Proofs.YtflpnpppljalaaaDoor.RowsC

theorem rsized (n : Int) (w : World) : Calls Tryd.prog 18 #[.int .i64 n] w fun e w' => e = .returned (.bool (sizedB n)) ∧ w' = w := by
  unfold sizedB
  cases h1 : (n == 1) <;> cases h2 : (n == 2) <;> cases h4 : (n == 4) <;> cases h8 : (n == 8) <;>
  · go_enter Tryd.func18, Tryd.ntmps18
    go_wp2
    go_ret
    exact ⟨rfl, rfl⟩
theorem two_eq {s s' : ByteArray} {b b' : Int} (h1 : s = s') (h2 : b = b') : Ending.returned (.tuple #[.string s, .int .i64 b]) = .returned (.tuple #[.string s', .int .i64 b']) := by subst h1 h2; rfl
set_option maxHeartbeats 1000000 in
set_option maxRecDepth 100000 in
theorem rNum (v : Nat) (n : Int) (w : World) (hv : v < 18446744073709551616) :
    Calls Tryd.prog 9 #[.int .u64 (v : Nat), .int .i64 n] w fun e w' => e = .returned (.tuple #[.string (numS v n), .int .i64 (numE v n)]) ∧ Below w.heap.size w w' := by
  cases hz : sizedB n
  · have E1 : Hid (numE v n = 1) := Lib.hid (by unfold numE; rw [hz]; rfl)
    have E2 : Hid (numS v n = nos) := Lib.hid (by unfold numS; rw [E1.out]; rfl)
    have hc := rsized n w
    rw [hz] at hc
    clear hz
    go_enter Tryd.func9, Tryd.ntmps9
    go_wp2_with fail
    refine hc.mono ?_; rintro e w1 ⟨rfl, rfl⟩
    clear hc
    go_wp2_with fail
    go_ret2
    exact ⟨two_eq E2.out.symm E1.out.symm, Below.refl _ _⟩
  · obtain ⟨k, rfl, hk1, hk8⟩ := sized_nat hz
    have hc := rsized (k : Int) w
    rw [hz] at hc
    have HZ := Lib.hid hz
    clear hz
    obtain ⟨i0, hi, hz0, hz1, hz2⟩ := info_parts u8_info
    go_enter Tryd.func9, Tryd.ntmps9
    go_wp2_with fail
    refine hc.mono ?_; rintro e w1 ⟨rfl, rfl⟩
    clear hc
    go_wp2_with (at_make
                 refine wpList_make_full _ rfl (.tmp 11) (.tmp 11) 50 rfl w1.heap.size 5 i0 _ 1 Tryd.underlying50 hi hz0 hz1 .i64 .i64 (k : Int) (k : Int) k rfl rfl rfl rfl (by rw [hz2]; omega) (by unfold maxLen; omega) (Nat.le_refl _) ?_
                 intro w6 ho6 hg6
                 have HC : Hid (BAt w6 w1.heap.size (List.replicate k (0 : UInt8) ++ beN 0 v) ∧ Below w1.heap.size w1 w6) := Lib.hid ⟨by
                   rw [show beN 0 v = [] from rfl, List.append_nil]
                   exact BAt.of_owns (Owns.made (f := fU) (x := (0 : UInt8)) rfl ho6) (by rw [List.length_replicate]), below_grown (Below.refl _ _) (Nat.le_refl _) hg6 (fun k h => by cases h)⟩
                 clear ho6 hg6)
    go_loopw [0, 7] (fun vv iv wr => ∃ j u : Nat, j ≤ k ∧ u < 18446744073709551616 ∧ vv = .int .u64 (u : Nat) ∧ iv = .int .i64 ((k - j : Nat) : Int) ∧ Hid (u = v / 256 ^ j ∧ BAt wr w1.heap.size (List.replicate (k - j) (0 : UInt8) ++ beN j v) ∧ Below w1.heap.size w1 wr)) (fun _ iv _ => (intOf iv).toNat)
    case atStart => exact ⟨0, v, Nat.zero_le _, hv, rfl, rfl, Lib.hid ⟨by rw [Nat.pow_zero, Nat.div_one], HC.out.1, HC.out.2⟩⟩
    case round =>
      obtain ⟨j, u, hj, hu, rfl, rfl, HR⟩ := hrel
      by_cases hlt : j < k
      · obtain ⟨d, hd⟩ : ∃ d : Nat, k - j = d + 1 := ⟨k - j - 1, by omega⟩
        have hdk : d < k := by omega
        have hdi : (d : Int) < (k : Int) := by omega
        have hlen : (List.replicate (k - j) (0 : UInt8) ++ beN j v).length = k := by rw [List.length_append, List.length_replicate, be_len]; omega
        have c0 := HR.out.2.1.cell d (by rw [hlen]; exact hdk)
        have z0 := HR.out.2.1.soft d (by rw [hlen]; exact hdk)
        have HS := HR.out.2.1.set d (by rw [hlen]; exact hdk) (UInt8.ofNat (v / 256 ^ j % 256))
        rw [show d = k - j - 1 by omega, be_row k j v hlt, show k - j - 1 = d by omega] at HS
        have hy : ((UInt8.ofNat (v / 256 ^ j % 256)).toNat : Int) = (u : Int) % 256 := by
          rw [byte_toNat (Nat.mod_lt _ (by decide)), ← HR.out.1]; omega
        rw [hy] at HS
        have HQ := Lib.hid (show Below w1.heap.size w1 (wr.setCell ⟨w1.heap.size, d, none⟩ (.int .u8 ((u : Int) % 256))) from HR.out.2.2.setCell (Nat.le_refl _) _)
        have HS := Lib.hid HS
        have HD := Lib.hid (show u / 256 = v / 256 ^ (j + 1) by rw [HR.out.1, div_more])
        have hg := IntKind.wrap_u8 ((u : Int) % 256)
        rw [hd]
        clear hy
        have hd1 : (0 : Int) < ((d + 1 : Nat) : Int) := by omega
        generalize hv0 : (List.replicate (k - j) (0 : UInt8) ++ beN j v)[d]'(by rw [hlen]; exact hdk) = x0 at c0
        clear hv0
        go_wp2_with fail
        go_roundw
        case rel => exact ⟨j + 1, u / 256, by omega, by omega, by go_num, by rw [show k - (j + 1) = d by omega], Lib.hid ⟨HD.out, HS.out, HQ.out⟩⟩
        case measure => simp [intOf]
      · obtain rfl : j = k := by omega
        rw [Nat.sub_self] at HR
        have HB := HR.out.2.1.text (n := j) (by rw [List.replicate_zero, List.nil_append, be_len]) j
        rw [List.replicate_zero, List.nil_append] at HB
        have HW := Lib.hid HR.out.2.2
        have hk0 : ((j - j : Nat) : Int) = 0 := by omega
        by_cases h0 : u = 0
        · have E1 : Hid (numE v j = 0) := Lib.hid (by unfold numE; rw [HZ.out, if_pos rfl, Int.toNat_natCast, if_pos (by rw [← HR.out.1]; exact h0)])
          have E2 : Hid (numS v j = rowS (beN j v)) := Lib.hid (by unfold numS; rw [E1.out, if_pos rfl, Int.toNat_natCast])
          have d0 : ((u : Int) != 0) = false := by rw [h0]; rfl
          rw [hk0]
          clear HR hk0
          go_wp2_with fail
          go_ret2
          exact ⟨two_eq E2.out.symm E1.out.symm, HW.out⟩
        · have E1 : Hid (numE v j = 2) := Lib.hid (by unfold numE; rw [HZ.out, if_pos rfl, Int.toNat_natCast, if_neg (by rw [← HR.out.1]; exact h0)])
          have E2 : Hid (numS v j = nos) := Lib.hid (by unfold numS; rw [E1.out]; rfl)
          have d0 : ((u : Int) != 0) = true := by rw [bne_iff_ne]; omega
          rw [hk0]
          clear HR hk0 HB
          go_wp2_with fail
          go_ret2
          exact ⟨two_eq E2.out.symm E1.out.symm, HW.out⟩
theorem num2 (v : Nat) (hv : v < 65536) : numE v 2 = 0 ∧ numS v 2 = rowS (beN 2 v) := by
  have h : numE v 2 = 0 := by
    unfold numE
    rw [if_pos (by decide), if_pos (by show v / 256 ^ 2 = 0; omega)]
  exact ⟨h, by unfold numS; rw [h]; rfl⟩
theorem rMust (v : Nat) (w : World) (hv : v < 65536) : Calls Tryd.prog 19 #[.int .i64 (v : Nat), .int .i64 2] w fun e w' => e = .returned (.string (rowS (beN 2 v))) ∧ Below w.heap.size w w' := by
  have hc := rNum v 2 w (by omega)
  rw [(num2 v hv).1, (num2 v hv).2] at hc
  have g : IntKind.u64.wrap (v : Int) = (v : Int) := by rw [IntKind.wrap_u64]; omega
  generalize rowS (beN 2 v) = t at *
  go_enter Tryd.func19, Tryd.ntmps19
  go_wp2_with fail
  refine hc.mono ?_; rintro e w1 ⟨rfl, hb1⟩
  clear hc
  go_wp2_with fail
  go_ret
  exact ⟨rfl, hb1⟩
theorem numK (v k : Nat) (hs : sizedB (k : Int) = true) (hv : v < 256 ^ k) : numE v k = 0 ∧ numS v k = rowS (beN k v) := by
  have h : numE v k = 0 := by
    unfold numE
    rw [if_pos hs, Int.toNat_natCast, if_pos (Nat.div_eq_of_lt hv)]
  exact ⟨h, by unfold numS; rw [h, if_pos rfl, Int.toNat_natCast]⟩
theorem rMustN (v k : Nat) (w : World) (hs : sizedB (k : Int) = true) (hv : v < 256 ^ k) (hb : v < 9223372036854775808) : Calls Tryd.prog 19 #[.int .i64 (v : Nat), .int .i64 k] w fun e w' => e = .returned (.string (rowS (beN k v))) ∧ Below w.heap.size w w' := by
  have hc := rNum v k w (by omega)
  rw [(numK v k hs hv).1, (numK v k hs hv).2] at hc
  have g : IntKind.u64.wrap (v : Int) = (v : Int) := by rw [IntKind.wrap_u64]; omega
  generalize rowS (beN k v) = t at *
  go_enter Tryd.func19, Tryd.ntmps19
  go_wp2_with fail
  refine hc.mono ?_; rintro e w1 ⟨rfl, hb1⟩
  clear hc
  go_wp2_with fail
  go_ret
  exact ⟨rfl, hb1⟩
theorem rText (s : ByteArray) (w : World) (hs : s.size ≤ 1000000) : Calls Tryd.prog 11 #[.string s] w fun e w' => e = .returned (.tuple #[.string (textS s), .int .i64 (textE s)]) ∧ Below w.heap.size w w' := by
  by_cases h : 65535 < s.size
  · have E1 : Hid (textE s = 2) := Lib.hid (if_pos h)
    have E2 : Hid (textS s = nos) := Lib.hid (if_pos h)
    have hd : (65535 : Int) < (s.size : Int) := by omega
    go_enter Tryd.func11, Tryd.ntmps11
    go_wp2_with fail
    go_ret2
    exact ⟨two_eq E2.out.symm E1.out.symm, Below.refl _ _⟩
  · have E1 : Hid (textE s = 0) := Lib.hid (if_neg h)
    have E2 : Hid (textS s = rowS (beN 2 s.size) ++ s) := Lib.hid (if_neg h)
    have hd : ¬ (65535 : Int) < (s.size : Int) := by omega
    have hc := rMust s.size w (by omega)
    have hz : (rowS (beN 2 s.size)).size = 2 := rfl
    generalize rowS (beN 2 s.size) = t at *
    have hbig : ¬ 9223372036854775807 < t.size + s.size := by omega
    go_enter Tryd.func11, Tryd.ntmps11
    go_wp2_with fail
    refine hc.mono ?_; rintro e w1 ⟨rfl, hb1⟩
    clear hc
    go_wp2_with fail
    go_ret2
    exact ⟨two_eq E2.out.symm E1.out.symm, hb1⟩
end Go.Proofs.YtflpnpppljalaaaDoor.PackC
