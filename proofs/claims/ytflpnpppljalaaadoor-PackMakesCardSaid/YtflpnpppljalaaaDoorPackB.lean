/-
  Contracts of pack's reference: Take, Cut.
-/
import Derived.Test.YtflpnpppljalaaaDoorPackA
namespace Go.Proofs.YtflpnpppljalaaaDoor.PackC
set_option linter.unusedVariables false
open Go.RowKit Go.Proofs.YtflpnpppljalaaaDoor.NumC Go.Proofs.YtflpnpppljalaaaDoor.RowsC

theorem three_eq {v v' : Int} {a a' b b' : Int} (h0 : v = v') (h1 : a = a') (h2 : b = b') : Ending.returned (.tuple #[.int .u64 v, .int .i64 a, .int .i64 b]) = .returned (.tuple #[.int .u64 v', .int .i64 a', .int .i64 b']) := by subst h0 h1 h2; rfl
theorem val_step (l : List UInt8) (j : Nat) (h : j < l.length) : valF 0 (l.take (j + 1)) = valF 0 (l.take j) * 256 + l[j].toNat := by
  rw [List.take_add_one, List.getElem?_eq_getElem h, val_append]; rfl
theorem val_small (l : List UInt8) (h : l.length ≤ 8) : valF 0 l < 18446744073709551616 := by
  have h1 := val_lt l 0
  have h2 : 256 ^ l.length ≤ 256 ^ 8 := Nat.pow_le_pow_right (by decide) h
  have : (256 : Nat) ^ 8 = 18446744073709551616 := by decide
  omega
set_option maxHeartbeats 1000000 in
set_option maxRecDepth 100000 in
theorem rTake (b : ByteArray) (p n : Int) (w : World) (hb : b.size ≤ 1000000) :
    Calls Tryd.prog 13 #[.string b, .int .i64 p, .int .i64 n] w fun e w' => e = .returned (.tuple #[.int .u64 (takeV b p n : Nat), .int .i64 (takeK b p n), .int .i64 (takeE b p n)]) ∧ Below w.heap.size w w' := by
  cases hz : sizedB n
  · have E1 : Hid (takeE b p n = 1) := Lib.hid (by unfold takeE; rw [hz]; rfl)
    have E2 : Hid (takeV b p n = 0) := Lib.hid (by unfold takeV; rw [E1.out]; rfl)
    have E3 : Hid (takeK b p n = 0) := Lib.hid (by unfold takeK; rw [E1.out]; rfl)
    have hc := rsized n w
    rw [hz] at hc
    clear hz
    go_enter Tryd.func13, Tryd.ntmps13
    go_wp2_with fail
    refine hc.mono ?_; rintro e w1 ⟨rfl, rfl⟩
    clear hc
    go_wp2_with fail
    go_ret3
    exact ⟨three_eq (by rw [E2.out]; rfl) E3.out.symm E1.out.symm, Below.refl _ _⟩
  · obtain ⟨k, rfl, hk1, hk8⟩ := sized_nat hz
    have hc := rsized (k : Int) w
    rw [hz] at hc
    by_cases hin : 0 ≤ p ∧ p ≤ b.size ∧ (k : Int) ≤ b.size - p
    · have E1 : Hid (takeE b p k = 0) := Lib.hid (by unfold takeE; rw [hz, if_pos rfl, if_pos hin])
      have E3 : Hid (takeK b p k = p + k) := Lib.hid (by unfold takeK; rw [E1.out]; rfl)
      obtain ⟨h0, h1, h2⟩ := hin
      obtain ⟨q, rfl⟩ : ∃ q : Nat, p = q := ⟨p.toNat, by omega⟩
      obtain ⟨l, hl⟩ : ∃ l, l = b.data.toList.drop q := ⟨_, rfl⟩
      have E2 : Hid (takeV b q k = valF 0 (l.take k)) := Lib.hid (by unfold takeV; rw [E1.out, hl]; rfl)
      have hll : l.length = b.size - q := by rw [hl, List.length_drop]; rfl
      have HL := Lib.hid (show ∀ j (hj : j < l.length) (hq : q + j < b.size), l[j] = b[q + j] from fun j hj hq => by
        subst hl; rw [List.getElem_drop]; rfl)
      have d0 : decide ((q : Int) < 0) = false := decide_eq_false (by omega)
      have d1 : decide (b.size < q) = false := decide_eq_false (by omega)
      have g1 : IntKind.i64.wrap ((b.size : Int) - (q : Int)) = (b.size : Int) - (q : Int) := by rw [IntKind.wrap_i64]; omega
      have d2 : decide ((b.size : Int) - (q : Int) < (k : Int)) = false := decide_eq_false (by omega)
      have g2 : IntKind.i64.wrap ((q : Int) + (k : Int)) = (q : Int) + (k : Int) := by rw [IntKind.wrap_i64]; omega
      clear hz hl
      go_enter Tryd.func13, Tryd.ntmps13
      go_wp2_with fail
      refine hc.mono ?_; rintro e w1 ⟨rfl, rfl⟩
      clear hc
      go_wp2_with fail
      go_loopw [9, 10] (fun vv iv wr => ∃ j u : Nat, j ≤ k ∧ vv = .int .u64 (u : Nat) ∧ iv = .int .i64 j ∧ Hid (u = valF 0 (l.take j) ∧ Below w1.heap.size w1 wr)) (fun _ iv _ => k - (intOf iv).toNat)
      case atStart => exact ⟨0, 0, Nat.zero_le _, rfl, rfl, Lib.hid ⟨by rw [List.take_zero]; rfl, Below.refl _ _⟩⟩
      case round =>
        obtain ⟨j, u, hj, rfl, rfl, HR⟩ := hrel
        by_cases hlt : j < k
        · have d3 : (j : Int) < (k : Int) := by omega
          have hjl : j < l.length := by omega
          have hqj : q + j < b.size := by omega
          have hqi : (q : Int) + (j : Int) < (b.size : Int) := by omega
          have hu : u * 256 + b[q + j].toNat < 18446744073709551616 := by
            have h := val_small (l.take (j + 1)) (by rw [List.length_take]; omega)
            rw [val_step l j hjl, HL.out j hjl hqj] at h
            rw [HR.out.1]; exact h
          have HN := Lib.hid (show u * 256 + b[q + j].toNat = valF 0 (l.take (j + 1)) by rw [val_step l j hjl, HL.out j hjl hqj, HR.out.1])
          have g3 : IntKind.i64.wrap ((q : Int) + (j : Int)) = ((q + j : Nat) : Int) := by rw [IntKind.wrap_i64]; omega
          obtain ⟨x, hx⟩ : ∃ x, x = b[q + j].toNat := ⟨_, rfl⟩
          have hx8 : x < 256 := by rw [hx]; exact b[q + j].toNat_lt
          have hxi : ((b[q + j].toNat : Nat) : Int) = (x : Int) := by rw [hx]
          rw [← hx] at hu HN
          have HX := Lib.hid hx
          have g4 : IntKind.u64.wrap (x : Int) = (x : Int) := by rw [IntKind.wrap_u64]; omega
          have g5 : IntKind.u64.wrap ((u : Int) * 256) = (u : Int) * 256 := by rw [IntKind.wrap_u64]; omega
          have g6 : IntKind.u64.wrap ((u : Int) * 256 + (x : Int)) = ((u * 256 + x : Nat) : Int) := by rw [IntKind.wrap_u64]; omega
          clear hx
          go_wp2_with fail
          go_roundw
          case rel => exact ⟨j + 1, u * 256 + x, by omega, by push_cast; rfl, by go_num, Lib.hid ⟨HN.out, HR.out.2⟩⟩
          case measure => simp [intOf]; omega
        · have d3 : ¬ (j : Int) < (k : Int) := by omega
          obtain rfl : j = k := by omega
          go_wp2_with fail
          go_ret3
          exact ⟨three_eq (by rw [E2.out, ← HR.out.1]) E3.out.symm E1.out.symm, HR.out.2⟩
    · have E1 : Hid (takeE b p k = 11) := Lib.hid (by unfold takeE; rw [hz, if_pos rfl, if_neg hin])
      have E2 : Hid (takeV b p k = 0) := Lib.hid (by unfold takeV; rw [E1.out]; rfl)
      have E3 : Hid (takeK b p k = 0) := Lib.hid (by unfold takeK; rw [E1.out]; rfl)
      clear hz
      by_cases h0 : p < 0
      · have d0 : decide (p < 0) = true := decide_eq_true h0
        go_enter Tryd.func13, Tryd.ntmps13
        go_wp2_with fail
        refine hc.mono ?_; rintro e w1 ⟨rfl, rfl⟩
        clear hc
        go_wp2_with fail
        go_ret3
        exact ⟨three_eq (by rw [E2.out]; rfl) E3.out.symm E1.out.symm, Below.refl _ _⟩
      · obtain ⟨q, rfl⟩ : ∃ q : Nat, p = q := ⟨p.toNat, by omega⟩
        have d0 : decide ((q : Int) < 0) = false := decide_eq_false h0
        by_cases h1 : b.size < q
        · have d1 : decide (b.size < q) = true := decide_eq_true h1
          go_enter Tryd.func13, Tryd.ntmps13
          go_wp2_with fail
          refine hc.mono ?_; rintro e w1 ⟨rfl, rfl⟩
          clear hc
          go_wp2_with fail
          go_ret3
          exact ⟨three_eq (by rw [E2.out]; rfl) E3.out.symm E1.out.symm, Below.refl _ _⟩
        · have d1 : decide (b.size < q) = false := decide_eq_false h1
          have g1 : IntKind.i64.wrap ((b.size : Int) - (q : Int)) = (b.size : Int) - (q : Int) := by rw [IntKind.wrap_i64]; omega
          have d2 : decide ((b.size : Int) - (q : Int) < (k : Int)) = true := decide_eq_true (by omega)
          go_enter Tryd.func13, Tryd.ntmps13
          go_wp2_with fail
          refine hc.mono ?_; rintro e w1 ⟨rfl, rfl⟩
          clear hc
          go_wp2_with fail
          go_ret3
          exact ⟨three_eq (by rw [E2.out]; rfl) E3.out.symm E1.out.symm, Below.refl _ _⟩
theorem cut_eq {s s' : ByteArray} {a a' b b' : Int} (h0 : s = s') (h1 : a = a') (h2 : b = b') : Ending.returned (.tuple #[.string s, .int .i64 a, .int .i64 b]) = .returned (.tuple #[.string s', .int .i64 a', .int .i64 b']) := by subst h0 h1 h2; rfl
theorem take_two (b : ByteArray) (p : Int) (h : takeE b p 2 = 0) : 0 ≤ p ∧ p + 2 ≤ b.size ∧ takeK b p 2 = p + 2 ∧ takeV b p 2 < 65536 := by
  have h1 : 0 ≤ p ∧ p ≤ b.size ∧ (2 : Int) ≤ b.size - p := by
    unfold takeE at h
    rw [if_pos (by decide)] at h
    by_cases g : 0 ≤ p ∧ p ≤ b.size ∧ (2 : Int) ≤ b.size - p
    · exact g
    · rw [if_neg g] at h; exact absurd h (by decide)
  refine ⟨h1.1, by omega, by unfold takeK; rw [if_pos h], ?_⟩
  unfold takeV
  rw [if_pos h]
  have h3 := val_lt ((b.data.toList.drop p.toNat).take (2 : Int).toNat) 0
  have h4 : ((b.data.toList.drop p.toNat).take (2 : Int).toNat).length ≤ 2 := by rw [List.length_take]; exact Nat.min_le_left _ _
  have h5 : 256 ^ ((b.data.toList.drop p.toNat).take (2 : Int).toNat).length ≤ 256 ^ 2 := Nat.pow_le_pow_right (by decide) h4
  omega
theorem take_errs (b : ByteArray) (p : Int) (h : takeE b p 2 ≠ 0) : takeE b p 2 = 11 ∧ takeV b p 2 = 0 ∧ takeK b p 2 = 0 := by
  refine ⟨?_, by unfold takeV; rw [if_neg h], by unfold takeK; rw [if_neg h]⟩
  unfold takeE at h ⊢
  rw [if_pos (by decide)] at h ⊢
  by_cases g : 0 ≤ p ∧ p ≤ b.size ∧ (2 : Int) ≤ b.size - p
  · rw [if_pos g] at h; exact absurd rfl h
  · rw [if_neg g]
set_option maxHeartbeats 1000000 in
set_option maxRecDepth 100000 in
theorem rCut (b : ByteArray) (p m : Int) (w : World) (hb : b.size ≤ 1000000) :
    Calls Tryd.prog 15 #[.string b, .int .i64 p, .int .i64 m] w fun e w' => e = .returned (.tuple #[.string (cutS b p m), .int .i64 (cutK b p m), .int .i64 (cutE b p m)]) ∧ Below w.heap.size w w' := by
  have hc := rTake b p 2 w hb
  by_cases h : takeE b p 2 = 0
  · obtain ⟨h1, h2, h3, h4⟩ := take_two b p h
    obtain ⟨q, rfl⟩ : ∃ q : Nat, p = q := ⟨p.toNat, by omega⟩
    obtain ⟨n, hn⟩ : ∃ n, n = takeV b q 2 := ⟨_, rfl⟩
    have e1 : cutE b q m = if (b.size : Int) - ((q : Int) + 2) < (n : Int) then 11 else if m < (n : Int) then 2 else 0 := by
      unfold cutE; rw [h, h3, ← hn]; simp
    have e2 : cutS b q m = if cutE b q m = 0 then b.extract (q + 2) (q + 2 + n) else nos := by unfold cutS; rw [← hn]; rfl
    have e3 : cutK b q m = if cutE b q m = 0 then (q : Int) + 2 + (n : Int) else 0 := by unfold cutK; rw [h3, ← hn]
    rw [h, h3, ← hn] at hc
    rw [← hn] at h4
    have HE := Lib.hid (And.intro e1 (And.intro e2 e3))
    have g0 : IntKind.i64.wrap (n : Int) = (n : Int) := by rw [IntKind.wrap_i64]; omega
    have g1 : IntKind.i64.wrap ((b.size : Int) - ((q : Int) + 2)) = (b.size : Int) - ((q : Int) + 2) := by rw [IntKind.wrap_i64]; omega
    clear e1 e2 e3 h h3 hn
    by_cases c1 : (b.size : Int) - ((q : Int) + 2) < (n : Int)
    · have E1 : Hid (cutE b q m = 11) := Lib.hid (by rw [HE.out.1, if_pos c1])
      have E2 : Hid (cutS b q m = nos) := Lib.hid (by rw [HE.out.2.1, E1.out]; rfl)
      have E3 : Hid (cutK b q m = 0) := Lib.hid (by rw [HE.out.2.2, E1.out]; rfl)
      have d1 : decide ((b.size : Int) - ((q : Int) + 2) < (n : Int)) = true := decide_eq_true c1
      go_enter Tryd.func15, Tryd.ntmps15
      go_wp2_with fail
      refine hc.mono ?_; rintro e w1 ⟨rfl, hb1⟩
      clear hc
      go_wp2_with fail
      go_ret3
      exact ⟨cut_eq E2.out.symm E3.out.symm E1.out.symm, hb1⟩
    · have d1 : decide ((b.size : Int) - ((q : Int) + 2) < (n : Int)) = false := decide_eq_false c1
      by_cases c2 : m < (n : Int)
      · have E1 : Hid (cutE b q m = 2) := Lib.hid (by rw [HE.out.1, if_neg c1, if_pos c2])
        have E2 : Hid (cutS b q m = nos) := Lib.hid (by rw [HE.out.2.1, E1.out]; rfl)
        have E3 : Hid (cutK b q m = 0) := Lib.hid (by rw [HE.out.2.2, E1.out]; rfl)
        go_enter Tryd.func15, Tryd.ntmps15
        go_wp2_with fail
        refine hc.mono ?_; rintro e w1 ⟨rfl, hb1⟩
        clear hc
        go_wp2_with fail
        go_ret3
        exact ⟨cut_eq E2.out.symm E3.out.symm E1.out.symm, hb1⟩
      · have E1 : Hid (cutE b q m = 0) := Lib.hid (by rw [HE.out.1, if_neg c1, if_neg c2])
        have E2 : Hid (cutS b q m = b.extract (q + 2) (q + 2 + n)) := Lib.hid (by rw [HE.out.2.1, E1.out]; rfl)
        have E3 : Hid (cutK b q m = (q : Int) + 2 + (n : Int)) := Lib.hid (by rw [HE.out.2.2, E1.out]; rfl)
        have g2 : IntKind.i64.wrap ((q : Int) + 2 + (n : Int)) = (q : Int) + 2 + (n : Int) := by rw [IntKind.wrap_i64]; omega
        go_enter Tryd.func15, Tryd.ntmps15
        go_wp2_with fail
        refine hc.mono ?_; rintro e w1 ⟨rfl, hb1⟩
        clear hc
        go_wp2_with fail
        go_ret3
        exact ⟨cut_eq E2.out.symm E3.out.symm E1.out.symm, hb1⟩
  · obtain ⟨t1, t2, t3⟩ := take_errs b p h
    have E1 : Hid (cutE b p m = 11) := Lib.hid (by unfold cutE; rw [if_pos (Or.inl h)])
    have E2 : Hid (cutS b p m = nos) := Lib.hid (by unfold cutS; rw [E1.out]; rfl)
    have E3 : Hid (cutK b p m = 0) := Lib.hid (by unfold cutK; rw [E1.out]; rfl)
    rw [t1, t2, t3] at hc
    clear h t1 t2 t3
    go_enter Tryd.func15, Tryd.ntmps15
    go_wp2_with fail
    refine hc.mono ?_; rintro e w1 ⟨rfl, hb1⟩
    clear hc
    go_wp2_with fail
    go_ret3
    exact ⟨cut_eq E2.out.symm E3.out.symm E1.out.symm, hb1⟩
end Go.Proofs.YtflpnpppljalaaaDoor.PackC
