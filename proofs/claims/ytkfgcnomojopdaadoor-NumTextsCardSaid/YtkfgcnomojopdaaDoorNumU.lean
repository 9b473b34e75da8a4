/-
  Contracts of the reference's numbers: Pow. Nothing is assumed but that the arguments are numbers of their kinds.
-/
import Derived.Test.YtkfgcnomojopdaaDoorNumT
namespace Go.Proofs.YtkfgcnomojopdaaDoor.NumC
set_option linter.unusedVariables false
open Go.RowKit

theorem pw_zero {n : Nat} (h : n ≠ 0) : pw 0 n = 0 := by unfold pw; exact Int.zero_pow h
theorem pw_one (n : Nat) : pw 1 n = 1 := by unfold pw; exact Int.one_pow
theorem pw_mone (n : Nat) : pw (-1) n = 1 - (n % 2 : Nat) * 2 := by
  induction n with
  | zero => rfl
  | succ n ih => rw [← pw_succ, ih]; omega
theorem powN_of {a b : Int} (h : 0 ≤ b) (g : I64 (pw a b.toNat)) : powN a b = pw a b.toNat ∧ powB a b = true := by
  unfold powN powB; rw [if_neg (by omega), if_neg (by omega)]; exact ⟨fitN_yes g, fitB_yes g⟩
theorem powN_no {a b : Int} (g : b < 0 ∨ ¬ I64 (pw a b.toNat)) : powN a b = 0 ∧ powB a b = false := by
  unfold powN powB
  by_cases h : b < 0
  · rw [if_pos h, if_pos h]; exact ⟨rfl, rfl⟩
  · rw [if_neg h, if_neg h]
    have g' : ¬ I64 (pw a b.toNat) := by rcases g with g | g; exact absurd g h; exact g
    exact ⟨fitN_no g', fitB_no g'⟩
theorem pow_zero_case {b : Int} (h : 0 ≤ b) (hb : b ≠ 0) : powN 0 b = 0 ∧ powB 0 b = true := by
  have e := pw_zero (n := b.toNat) (by omega)
  have := powN_of (a := 0) h (by rw [e]; decide)
  rwa [e] at this
theorem pow_one_case {b : Int} (h : 0 ≤ b) : powN 1 b = 1 ∧ powB 1 b = true := by
  have e := pw_one b.toNat
  have := powN_of (a := 1) h (by rw [e]; decide)
  rwa [e] at this
theorem pow_mone_case {b : Int} (h : 0 ≤ b) : powN (-1) b = 1 - b % 2 * 2 ∧ powB (-1) b = true := by
  have e := pw_mone b.toNat
  have e2 : (1 : Int) - (b.toNat % 2 : Nat) * 2 = 1 - b % 2 * 2 := by omega
  have := powN_of (a := -1) h (by rw [e]; unfold I64; omega)
  rw [e, e2] at this
  exact this
theorem pow_great {a : Int} (h2 : 2 ≤ a.natAbs) {n : Nat} (hn : 64 ≤ n) : ¬ I64 (pw a n) := by
  refine pw_over (k := 64) h2 ?_ hn
  have e := pw_natAbs a 64
  have h3 : 2 ^ 64 ≤ a.natAbs ^ 64 := Nat.pow_le_pow_left h2 64
  have h4 : (9223372036854775808 : Nat) < 2 ^ 64 := by decide
  unfold I64; omega

/-- What holds of the world at the loop's head: both new blocks. -/
def PowRel (w wr : World) (x : Int) : Prop :=
  Below w.heap.size w wr ∧ w.heap.size < wr.heap.size ∧ w.heap.size + 1 < wr.heap.size ∧
  wr.cell? ⟨w.heap.size, 0, none⟩ = some (.int .i64 0) ∧ wr.cell? ⟨w.heap.size, 1, none⟩ = some (.bool false) ∧
  wr.cell? ⟨w.heap.size + 1, 0, none⟩ = some (.int .i64 x) ∧ wr.cell? ⟨w.heap.size + 1, 1, none⟩ = some (.bool true) ∧
  wr.frozen? ⟨w.heap.size, 0, none⟩ = false ∧ wr.frozen? ⟨w.heap.size, 1, none⟩ = false ∧
  wr.frozen? ⟨w.heap.size + 1, 0, none⟩ = false ∧ wr.frozen? ⟨w.heap.size + 1, 1, none⟩ = false
theorem powRel_start (w : World) (a : Int) : PowRel w ((w.alloc (Obj.cells #[Value.int IntKind.i64 0, Value.bool false] 25)).alloc (Obj.cells #[Value.int IntKind.i64 1, Value.bool true] 25)) (pw a 0) := by
  rw [pw_0]
  refine ⟨((Below.refl _ _).alloc (Nat.le_refl _) _).alloc (by simp) _, ?_, ?_, ?_, ?_, ?_, ?_, ?_, ?_, ?_, ?_⟩
  all_goals simp [go_sem]

theorem powRel_step {w wr w1 : World} {x y : Int} (h : PowRel w wr y) (hb : Below wr.heap.size wr w1) :
    PowRel w ((w1.setCell ⟨w.heap.size + 1, 0, none⟩ (.int .i64 x)).setCell ⟨w.heap.size + 1, 1, none⟩ (.bool true)) x := by
  obtain ⟨hw, hz0, hz, c0, c1, d0, d1, g0, g1, g2, g3⟩ := h
  obtain ⟨hc, hf⟩ := bcell hb
  have hz2 := hb.size
  have hz3 : w.heap.size < w1.heap.size := by omega
  have hz4 : w.heap.size + 1 < w1.heap.size := by omega
  refine ⟨((hw.trans (hb.mono (Nat.le_of_lt hz0))).setCell (by simp) _).setCell (by simp) _, ?_, ?_, ?_, ?_, ?_, ?_, ?_, ?_, ?_, ?_⟩
  all_goals simp [go_sem, hc, hf, hz0, hz, hz3, hz4, c0, c1, d0, d1, g0, g1, g2, g3]

set_option maxRecDepth 100000 in
set_option maxHeartbeats 2000000 in
theorem rpow (a b : Int) (w : World) (ha : I64 a) (hb : I64 b) :
    Calls Tryd.prog 22 #[.int .i64 a, .int .i64 b] w fun e w' => e = .returned (.agg #[.int .i64 (powN a b), .bool (powB a b)]) ∧ Below w.heap.size w w' := by
  have hb1 := hb; unfold I64 at hb1
  obtain ⟨hb1, hb2⟩ := hb1
  by_cases h0 : b < 0
  · have E := Lib.hid (powN_no (a := a) (Or.inl h0))
    go_enter Tryd.func22, Tryd.ntmps22
    go_wp2
    refine bodyPost_ret (v := .agg #[.int .i64 0, .bool false]) (by simp [results, Tryd.results22, go_sem]) rfl ⟨got_eq E.out.1.symm E.out.2.symm, ?_⟩
    exact (Below.refl _ _).alloc (Nat.le_refl _) _
  · have h0' : 0 ≤ b := by omega
    by_cases a0 : a = 0
    · subst a0
      by_cases b0 : b = 0
      · subst b0
        have E : Hid (powN 0 0 = 1 ∧ powB 0 0 = true) := Lib.hid (by decide)
        go_enter Tryd.func22, Tryd.ntmps22
        go_wp2
        refine bodyPost_ret (v := .agg #[.int .i64 1, .bool true]) (by simp [results, Tryd.results22, go_sem]) rfl ⟨got_eq E.out.1.symm E.out.2.symm, ?_⟩
        exact (Below.refl _ _).alloc (Nat.le_refl _) _
      · have E := Lib.hid (pow_zero_case h0' b0)
        have b1 : (b == 0) = false := by simpa using b0
        clear b0
        go_enter Tryd.func22, Tryd.ntmps22
        go_wp2
        refine bodyPost_ret (v := .agg #[.int .i64 0, .bool true]) (by simp [results, Tryd.results22, go_sem]) rfl ⟨got_eq E.out.1.symm E.out.2.symm, ?_⟩
        exact (Below.refl _ _).alloc (Nat.le_refl _) _
    · by_cases a1 : a = 1
      · subst a1
        have E := Lib.hid (pow_one_case h0')
        clear a0
        go_enter Tryd.func22, Tryd.ntmps22
        go_wp2
        refine bodyPost_ret (v := .agg #[.int .i64 1, .bool true]) (by simp [results, Tryd.results22, go_sem]) rfl ⟨got_eq E.out.1.symm E.out.2.symm, ?_⟩
        exact (Below.refl _ _).alloc (Nat.le_refl _) _
      · by_cases a2 : a = -1
        · subst a2
          have E := Lib.hid (pow_mone_case h0')
          clear a0 a1
          go_enter Tryd.func22, Tryd.ntmps22
          go_wp2
          refine bodyPost_ret (v := .agg #[.int .i64 (1 - b % 2 * 2), .bool true]) (by simp [results, Tryd.results22, go_sem]) rfl ⟨got_eq E.out.1.symm E.out.2.symm, ?_⟩
          exact (Below.refl _ _).alloc (Nat.le_refl _) _
        · have ha2 : 2 ≤ a.natAbs := by omega
          have f0 : (a == 0) = false := by simpa using a0
          have f1 : (a == 1) = false := by simpa using a1
          have f2 : (a == -1) = false := by simpa using a2
          clear a0 a1 a2
          by_cases b64 : 64 < b
          · have E := Lib.hid (powN_no (a := a) (b := b) (Or.inr (pow_great ha2 (by omega))))
            go_enter Tryd.func22, Tryd.ntmps22
            go_wp2
            refine bodyPost_ret (v := .agg #[.int .i64 0, .bool false]) (by simp [results, Tryd.results22, go_sem]) rfl ⟨got_eq E.out.1.symm E.out.2.symm, ?_⟩
            exact (Below.refl _ _).alloc (Nat.le_refl _) _
          · obtain ⟨n, rfl⟩ := Int.eq_ofNat_of_zero_le h0'
            have EY : Hid (I64 (pw a n) → powN a n = pw a n ∧ powB a n = true) := Lib.hid (fun g => by have := powN_of (a := a) h0' (by rwa [Int.toNat_natCast]); rwa [Int.toNat_natCast] at this)
            have EN : Hid (¬ I64 (pw a n) → powN a n = 0 ∧ powB a n = false) := Lib.hid (fun g => powN_no (a := a) (b := n) (Or.inr (by rwa [Int.toNat_natCast])))
            go_enter Tryd.func22, Tryd.ntmps22
            go_wp2
            go_loopw [6] (fun i wr => ∃ k : Nat, k ≤ n ∧ i = .int .i64 k ∧ Hid (I64 (pw a k)) ∧ PowRel w wr (pw a k)) (fun i _ => n - (intOf i).toNat)
            case atStart => exact ⟨0, Nat.zero_le _, rfl, Lib.hid (by rw [pw_0]; decide), powRel_start w a⟩
            case round =>
              obtain ⟨k, hk, rfl, hpk, PR⟩ := hrel
              have PR := Lib.hid PR
              obtain ⟨hw, hz0, hz, c0, c1, d0, d1, g0, g1, g2, g3⟩ := PR.out
              by_cases hlt : k < n
              · have HS := Lib.hid (pw_succ a k)
                have hk65 : k < 65 := by omega
                by_cases hf : I64 (pw a (k + 1))
                · have F1 : Hid (fitN (pw a k * a) = pw a (k + 1)) := Lib.hid (by rw [HS.out, fitN_yes hf])
                  have F2 : Hid (fitB (pw a k * a) = true) := Lib.hid (by rw [HS.out, fitB_yes hf])
                  have HF := Lib.hid hf; clear hf
                  go_wp2_with fail
                  refine (rmul _ _ _ hpk.out ha).mono ?_; rw [F1.out, F2.out]; rintro e w1 ⟨rfl, hb3⟩
                  obtain ⟨hc, hf⟩ := bcell hb3
                  have hz2 := hb3.size
                  go_wp2
                  go_roundw
                  case rel => exact ⟨k + 1, by omega, by go_num, HF, powRel_step PR.out hb3⟩
                  case measure => simp [intOf]; omega
                · have F1 : Hid (fitN (pw a k * a) = 0) := Lib.hid (by rw [HS.out, fitN_no hf])
                  have F2 : Hid (fitB (pw a k * a) = false) := Lib.hid (by rw [HS.out, fitB_no hf])
                  have F3 := Lib.hid (EN.out (pw_stop hf (show k + 1 ≤ n by omega)))
                  clear hf
                  go_wp2_with fail
                  refine (rmul _ _ _ hpk.out ha).mono ?_; rw [F1.out, F2.out]; rintro e w1 ⟨rfl, hb3⟩
                  obtain ⟨hc, hf⟩ := bcell hb3
                  have hz2 := hb3.size
                  go_wp2
                  refine bodyPost_ret (v := .agg #[.int .i64 0, .bool false]) (by simp [results, Tryd.results22, go_sem, hc, hz0, c0, c1]) rfl ⟨got_eq F3.out.1.symm F3.out.2.symm, ?_⟩
                  have hw3 := hw.trans (hb3.mono (Nat.le_of_lt hz0))
                  repeat (first | exact hw3 | refine Below.setCell ?_ (by simp) _)
              · obtain rfl : k = n := by omega
                have F3 := Lib.hid (EY.out hpk.out)
                go_wp2
                refine bodyPost_ret (v := .agg #[.int .i64 (pw a k), .bool true]) (by simp [results, Tryd.results22, go_sem, c0, c1]) rfl ⟨got_eq F3.out.1.symm F3.out.2.symm, ?_⟩
                repeat (first | exact hw | refine Below.setCell ?_ (by simp) _)
end Go.Proofs.YtkfgcnomojopdaaDoor.NumC
