/-
  Contract of the reference's fine.
-/
import Derived.Test.YtkdgiadpmfpjnaaGreatDoorMK6
import Derived.Test.YtkdgiadpmfpjnaaGreatDoorMValA
namespace Go.Proofs.YtkdgiadpmfpjnaaGreatDoor.TreeC
set_option linter.unusedVariables false
open Go.RowKit Go.Proofs.YtkdgiadpmfpjnaaGreatDoor.NumC Go.Proofs.YtkdgiadpmfpjnaaGreatDoor.LexC

set_option maxRecDepth 100000 in
set_option maxHeartbeats 1000000 in
theorem rfits1 (f : Fld) (A : Option Addr) (m c : Nat) (w : World) (hm : m ≤ 1000000) (ho : f.op.size ≤ 1000000) (hk : f.k = 1) :
    Calls Tryz.prog 33 #[.agg #[.int .i64 f.k, .int .i64 f.vk, .int .i64 f.vn, .string f.vs, .int .i64 f.r1, .int .i64 f.r2, .int .i64 f.r3, .int .i64 f.r4, .string f.op, .slice A m c]] w fun e w' => e = .returned (.bool (fitsB f m)) ∧ Below w.heap.size w w' := by
  have HB1 : Hid (Below w.heap.size w (w.alloc (.cells #[.int .i64 f.k, .int .i64 f.vk, .int .i64 f.vn, .string f.vs, .int .i64 f.r1, .int .i64 f.r2, .int .i64 f.r3, .int .i64 f.r4, .string f.op, .slice A m c] 31))) := Lib.hid ((Below.refl _ _).alloc (Nat.le_refl _) _)
  have L1 : NLoc (w.alloc (.cells #[.int .i64 f.k, .int .i64 f.vk, .int .i64 f.vn, .string f.vs, .int .i64 f.r1, .int .i64 f.r2, .int .i64 f.r3, .int .i64 f.r4, .string f.op, .slice A m c] 31)) w.heap.size f A m c := ⟨heap_alloc_new _ _⟩
  have eV : ∀ W, (binOp .eql 24 (.agg #[.int .i64 f.vk, .int .i64 f.vn, .string f.vs]) (.agg #[.int .i64 0, .int .i64 0, .string { data := #[] }])).run Tryz.prog W = .ok (.bool (noVB f)) W := fun W => ValueC.eqs _ _ _ _ _ _ W
  have eR : ∀ W, (binOp .eql 28 (.agg #[.int .i64 f.r1, .int .i64 f.r2, .int .i64 f.r3, .int .i64 f.r4]) (.agg #[.int .i64 0, .int .i64 0, .int .i64 0, .int .i64 0])).run Tryz.prog W = .ok (.bool (noRB f)) W := fun W => eq_rect _ _ _ _ _ _ _ _ W
  have eO : (f.op.toList == []) = noOB f := rfl
  generalize hD : fitsB f m = D
  have HD := Lib.hid hD.symm
  clear hD
  have HK := Lib.hid hk
  clear hk
  obtain ⟨d0, d1, d2, d3, d4, d5, d6, d7, d8, d9, -⟩ := L1.cells
  have b1 : (f.k == 1) = true := beq_iff_eq.2 HK.out
  have hvn : Hid (f.vn = f.vn) := Lib.hid rfl
  by_cases v2 : f.vk = 2
  · by_cases vn : 0 ≤ f.vn
    · have t2 : (f.vk == 2) = true := beq_iff_eq.2 v2
      have tn : decide (0 ≤ f.vn) = true := decide_eq_true vn
      have HE : Hid (D = (ValueC.goodB ⟨f.vk, f.vn, f.vs⟩ && noRB f && noOB f && decide (m = 0))) := Lib.hid (HD.out.trans (by simp [fitsB, constB, HK.out, v2, vn]))
      clear HD v2 vn
      go_enter Tryz.func33, Tryz.ntmps33
      go_wp2_with fail
      refine (ValueC.rgood_of f.vk f.vn f.vs _).mono ?_; rintro e w2 ⟨rfl, hb2⟩
      have L2 := L1.kept (Kept.of hb2) (Nat.ne_of_lt L1.lt)
      have HB2 := Lib.hid (HB1.out.trans (hb2.mono HB1.out.size))
      clear d0 d1 d2 d3 d4 d5 d6 d7 d8 d9 hb2 L1
      obtain ⟨d0, d1, d2, d3, d4, d5, d6, d7, d8, d9, -⟩ := L2.cells
      by_cases hm0 : m = 0
      · have e0 : ((m : Int) == 0) = true := beq_iff_eq.2 (by omega)
        have hM := Lib.hid hm0
        clear hm0
        cases c0 : ValueC.goodB ⟨f.vk, f.vn, f.vs⟩ <;> cases c1 : noRB f <;> cases c2 : noOB f
        all_goals
          go_wp2_with fail
          go_ret
          exact ⟨by rw [HE.out]; simp [c0, c1, c2, hM.out], HB2.out⟩
      · have e0 : ((m : Int) == 0) = false := beq_eq_false_iff_ne.2 (by omega)
        have hM := Lib.hid hm0
        clear hm0
        cases c0 : ValueC.goodB ⟨f.vk, f.vn, f.vs⟩ <;> cases c1 : noRB f <;> cases c2 : noOB f
        all_goals
          go_wp2_with fail
          go_ret
          exact ⟨by rw [HE.out]; simp [c0, c1, c2, hM.out], HB2.out⟩
    · have t2 : (f.vk == 2) = true := beq_iff_eq.2 v2
      have t3 : (f.vk == 3) = false := beq_eq_false_iff_ne.2 (by omega)
      have t1 : (f.vk == 1) = false := beq_eq_false_iff_ne.2 (by omega)
      have tn : decide (0 ≤ f.vn) = false := decide_eq_false vn
      have HE : Hid (D = false) := Lib.hid (HD.out.trans (by simp [fitsB, constB, HK.out, v2, vn]))
      clear HD v2 vn
      go_enter Tryz.func33, Tryz.ntmps33
      go_wp2_with fail
      go_wp2_with fail
      go_ret
      exact ⟨by rw [HE.out]; rfl, HB1.out⟩
  · by_cases v3 : f.vk = 3
    · have t2 : (f.vk == 2) = false := beq_eq_false_iff_ne.2 (by omega)
      have t3 : (f.vk == 3) = true := beq_iff_eq.2 v3
      have HE : Hid (D = (ValueC.goodB ⟨f.vk, f.vn, f.vs⟩ && noRB f && noOB f && decide (m = 0))) := Lib.hid (HD.out.trans (by simp [fitsB, constB, HK.out, v3]))
      clear HD v2 v3
      go_enter Tryz.func33, Tryz.ntmps33
      go_wp2_with fail
      refine (ValueC.rgood_of f.vk f.vn f.vs _).mono ?_; rintro e w2 ⟨rfl, hb2⟩
      have L2 := L1.kept (Kept.of hb2) (Nat.ne_of_lt L1.lt)
      have HB2 := Lib.hid (HB1.out.trans (hb2.mono HB1.out.size))
      clear d0 d1 d2 d3 d4 d5 d6 d7 d8 d9 hb2 L1
      obtain ⟨d0, d1, d2, d3, d4, d5, d6, d7, d8, d9, -⟩ := L2.cells
      by_cases hm0 : m = 0
      · have e0 : ((m : Int) == 0) = true := beq_iff_eq.2 (by omega)
        have hM := Lib.hid hm0
        clear hm0
        cases c0 : ValueC.goodB ⟨f.vk, f.vn, f.vs⟩ <;> cases c1 : noRB f <;> cases c2 : noOB f
        all_goals
          go_wp2_with fail
          go_ret
          exact ⟨by rw [HE.out]; simp [c0, c1, c2, hM.out], HB2.out⟩
      · have e0 : ((m : Int) == 0) = false := beq_eq_false_iff_ne.2 (by omega)
        have hM := Lib.hid hm0
        clear hm0
        cases c0 : ValueC.goodB ⟨f.vk, f.vn, f.vs⟩ <;> cases c1 : noRB f <;> cases c2 : noOB f
        all_goals
          go_wp2_with fail
          go_ret
          exact ⟨by rw [HE.out]; simp [c0, c1, c2, hM.out], HB2.out⟩
    · by_cases v1 : f.vk = 1
      · have t2 : (f.vk == 2) = false := beq_eq_false_iff_ne.2 (by omega)
        have t3 : (f.vk == 3) = false := beq_eq_false_iff_ne.2 (by omega)
        have t1 : (f.vk == 1) = true := beq_iff_eq.2 v1
        have HE : Hid (D = (ValueC.goodB ⟨f.vk, f.vn, f.vs⟩ && noRB f && noOB f && decide (m = 0))) := Lib.hid (HD.out.trans (by simp [fitsB, constB, HK.out, v1]))
        clear HD v1 v2 v3
        go_enter Tryz.func33, Tryz.ntmps33
        go_wp2_with fail
        refine (ValueC.rgood_of f.vk f.vn f.vs _).mono ?_; rintro e w2 ⟨rfl, hb2⟩
        have L2 := L1.kept (Kept.of hb2) (Nat.ne_of_lt L1.lt)
        have HB2 := Lib.hid (HB1.out.trans (hb2.mono HB1.out.size))
        clear d0 d1 d2 d3 d4 d5 d6 d7 d8 d9 hb2 L1
        obtain ⟨d0, d1, d2, d3, d4, d5, d6, d7, d8, d9, -⟩ := L2.cells
        by_cases hm0 : m = 0
        · have e0 : ((m : Int) == 0) = true := beq_iff_eq.2 (by omega)
          have hM := Lib.hid hm0
          clear hm0
          cases c0 : ValueC.goodB ⟨f.vk, f.vn, f.vs⟩ <;> cases c1 : noRB f <;> cases c2 : noOB f
          all_goals
            go_wp2_with fail
            go_ret
            exact ⟨by rw [HE.out]; simp [c0, c1, c2, hM.out], HB2.out⟩
        · have e0 : ((m : Int) == 0) = false := beq_eq_false_iff_ne.2 (by omega)
          have hM := Lib.hid hm0
          clear hm0
          cases c0 : ValueC.goodB ⟨f.vk, f.vn, f.vs⟩ <;> cases c1 : noRB f <;> cases c2 : noOB f
          all_goals
            go_wp2_with fail
            go_ret
            exact ⟨by rw [HE.out]; simp [c0, c1, c2, hM.out], HB2.out⟩
      · have t2 : (f.vk == 2) = false := beq_eq_false_iff_ne.2 (by omega)
        have t3 : (f.vk == 3) = false := beq_eq_false_iff_ne.2 (by omega)
        have t1 : (f.vk == 1) = false := beq_eq_false_iff_ne.2 (by omega)
        have HE : Hid (D = false) := Lib.hid (HD.out.trans (by simp [fitsB, constB, HK.out, v1, v2, v3]))
        clear HD v1 v2 v3
        go_enter Tryz.func33, Tryz.ntmps33
        go_wp2_with fail
        go_wp2_with fail
        go_ret
        exact ⟨by rw [HE.out]; rfl, HB1.out⟩

set_option maxRecDepth 100000 in
set_option maxHeartbeats 1000000 in
theorem rfits2 (f : Fld) (A : Option Addr) (m c : Nat) (w : World) (hm : m ≤ 1000000) (ho : f.op.size ≤ 1000000) (hk : f.k = 2) :
    Calls Tryz.prog 33 #[.agg #[.int .i64 f.k, .int .i64 f.vk, .int .i64 f.vn, .string f.vs, .int .i64 f.r1, .int .i64 f.r2, .int .i64 f.r3, .int .i64 f.r4, .string f.op, .slice A m c]] w fun e w' => e = .returned (.bool (fitsB f m)) ∧ Below w.heap.size w w' := by
  have HB1 : Hid (Below w.heap.size w (w.alloc (.cells #[.int .i64 f.k, .int .i64 f.vk, .int .i64 f.vn, .string f.vs, .int .i64 f.r1, .int .i64 f.r2, .int .i64 f.r3, .int .i64 f.r4, .string f.op, .slice A m c] 31))) := Lib.hid ((Below.refl _ _).alloc (Nat.le_refl _) _)
  have L1 : NLoc (w.alloc (.cells #[.int .i64 f.k, .int .i64 f.vk, .int .i64 f.vn, .string f.vs, .int .i64 f.r1, .int .i64 f.r2, .int .i64 f.r3, .int .i64 f.r4, .string f.op, .slice A m c] 31)) w.heap.size f A m c := ⟨heap_alloc_new _ _⟩
  have eV : ∀ W, (binOp .eql 24 (.agg #[.int .i64 f.vk, .int .i64 f.vn, .string f.vs]) (.agg #[.int .i64 0, .int .i64 0, .string { data := #[] }])).run Tryz.prog W = .ok (.bool (noVB f)) W := fun W => ValueC.eqs _ _ _ _ _ _ W
  have eR : ∀ W, (binOp .eql 28 (.agg #[.int .i64 f.r1, .int .i64 f.r2, .int .i64 f.r3, .int .i64 f.r4]) (.agg #[.int .i64 0, .int .i64 0, .int .i64 0, .int .i64 0])).run Tryz.prog W = .ok (.bool (noRB f)) W := fun W => eq_rect _ _ _ _ _ _ _ _ W
  have eT : ∀ W, (binOp .eql 26 (.agg #[.int .i64 f.r3, .int .i64 f.r4]) (.agg #[.int .i64 0, .int .i64 0])).run Tryz.prog W = .ok (.bool (noTB f)) W := fun W => eq_addr _ _ _ _ W
  have eO : (f.op.toList == []) = noOB f := rfl
  generalize hD : fitsB f m = D
  have HD := Lib.hid hD.symm
  clear hD
  have HK := Lib.hid hk
  clear hk
  obtain ⟨d0, d1, d2, d3, d4, d5, d6, d7, d8, d9, -⟩ := L1.cells
  have b1 : (f.k == 1) = false := beq_eq_false_iff_ne.2 (by rw [HK.out]; decide)
  have b2 : (f.k == 2) = true := beq_iff_eq.2 HK.out
  have HE : Hid (D = (AddrC.cellB f.r1 f.r2 && noTB f && noVB f && noOB f && decide (m = 0))) := Lib.hid (HD.out.trans (by simp [fitsB, HK.out]))
  clear HD
  cases v0 : noVB f
  · have HC := Lib.hid (And.intro True.intro True.intro)
    go_enter Tryz.func33, Tryz.ntmps33
    go_wp2_with fail
    go_ret
    exact ⟨by rw [HE.out]; simp [v0], HB1.out⟩
  · have HC := Lib.hid (And.intro True.intro True.intro)
    go_enter Tryz.func33, Tryz.ntmps33
    go_wp2_with fail
    refine (AddrC.rgood f.r1 f.r2 _).mono ?_; rintro e w2 ⟨rfl, hb2⟩
    have L2 := L1.kept (Kept.of hb2) (Nat.ne_of_lt L1.lt)
    have HB2 := Lib.hid (HB1.out.trans (hb2.mono HB1.out.size))
    clear d0 d1 d2 d3 d4 d5 d6 d7 d8 d9 hb2 L1
    obtain ⟨d0, d1, d2, d3, d4, d5, d6, d7, d8, d9, -⟩ := L2.cells
    by_cases hm0 : m = 0
    · have e0 : ((m : Int) == 0) = true := beq_iff_eq.2 (by omega)
      have hM := Lib.hid hm0
      clear hm0
      cases c0 : AddrC.cellB f.r1 f.r2 <;> cases c1 : noTB f <;> cases c2 : noOB f
      all_goals
        go_wp2_with fail
        go_ret
        exact ⟨by rw [HE.out]; simp [v0, c0, c1, c2, hM.out], HB2.out⟩
    · have e0 : ((m : Int) == 0) = false := beq_eq_false_iff_ne.2 (by omega)
      have hM := Lib.hid hm0
      clear hm0
      cases c0 : AddrC.cellB f.r1 f.r2 <;> cases c1 : noTB f <;> cases c2 : noOB f
      all_goals
        go_wp2_with fail
        go_ret
        exact ⟨by rw [HE.out]; simp [v0, c0, c1, c2, hM.out], HB2.out⟩

set_option maxRecDepth 100000 in
set_option maxHeartbeats 1000000 in
theorem rfits3 (f : Fld) (A : Option Addr) (m c : Nat) (w : World) (hm : m ≤ 1000000) (ho : f.op.size ≤ 1000000) (hk : f.k = 3) :
    Calls Tryz.prog 33 #[.agg #[.int .i64 f.k, .int .i64 f.vk, .int .i64 f.vn, .string f.vs, .int .i64 f.r1, .int .i64 f.r2, .int .i64 f.r3, .int .i64 f.r4, .string f.op, .slice A m c]] w fun e w' => e = .returned (.bool (fitsB f m)) ∧ Below w.heap.size w w' := by
  have HB1 : Hid (Below w.heap.size w (w.alloc (.cells #[.int .i64 f.k, .int .i64 f.vk, .int .i64 f.vn, .string f.vs, .int .i64 f.r1, .int .i64 f.r2, .int .i64 f.r3, .int .i64 f.r4, .string f.op, .slice A m c] 31))) := Lib.hid ((Below.refl _ _).alloc (Nat.le_refl _) _)
  have L1 : NLoc (w.alloc (.cells #[.int .i64 f.k, .int .i64 f.vk, .int .i64 f.vn, .string f.vs, .int .i64 f.r1, .int .i64 f.r2, .int .i64 f.r3, .int .i64 f.r4, .string f.op, .slice A m c] 31)) w.heap.size f A m c := ⟨heap_alloc_new _ _⟩
  have eV : ∀ W, (binOp .eql 24 (.agg #[.int .i64 f.vk, .int .i64 f.vn, .string f.vs]) (.agg #[.int .i64 0, .int .i64 0, .string { data := #[] }])).run Tryz.prog W = .ok (.bool (noVB f)) W := fun W => ValueC.eqs _ _ _ _ _ _ W
  have eR : ∀ W, (binOp .eql 28 (.agg #[.int .i64 f.r1, .int .i64 f.r2, .int .i64 f.r3, .int .i64 f.r4]) (.agg #[.int .i64 0, .int .i64 0, .int .i64 0, .int .i64 0])).run Tryz.prog W = .ok (.bool (noRB f)) W := fun W => eq_rect _ _ _ _ _ _ _ _ W
  have eO : (f.op.toList == []) = noOB f := rfl
  generalize hD : fitsB f m = D
  have HD := Lib.hid hD.symm
  clear hD
  have HK := Lib.hid hk
  clear hk
  obtain ⟨d0, d1, d2, d3, d4, d5, d6, d7, d8, d9, -⟩ := L1.cells
  have b1 : (f.k == 1) = false := beq_eq_false_iff_ne.2 (by rw [HK.out]; decide)
  have b2 : (f.k == 2) = false := beq_eq_false_iff_ne.2 (by rw [HK.out]; decide)
  have b3 : (f.k == 3) = true := beq_iff_eq.2 HK.out
  have HE : Hid (D = (AddrC.fineB f.r1 f.r2 f.r3 f.r4 && noVB f && noOB f && decide (m = 0))) := Lib.hid (HD.out.trans (by simp [fitsB, HK.out]))
  clear HD
  cases v0 : noVB f
  · have HC := Lib.hid (And.intro True.intro True.intro)
    go_enter Tryz.func33, Tryz.ntmps33
    go_wp2_with fail
    go_ret
    exact ⟨by rw [HE.out]; simp [v0], HB1.out⟩
  · have HC := Lib.hid (And.intro True.intro True.intro)
    go_enter Tryz.func33, Tryz.ntmps33
    go_wp2_with fail
    refine (AddrC.rfine f.r1 f.r2 f.r3 f.r4 _).mono ?_; rintro e w2 ⟨rfl, hb2⟩
    have L2 := L1.kept (Kept.of hb2) (Nat.ne_of_lt L1.lt)
    have HB2 := Lib.hid (HB1.out.trans (hb2.mono HB1.out.size))
    clear d0 d1 d2 d3 d4 d5 d6 d7 d8 d9 hb2 L1
    obtain ⟨d0, d1, d2, d3, d4, d5, d6, d7, d8, d9, -⟩ := L2.cells
    by_cases hm0 : m = 0
    · have e0 : ((m : Int) == 0) = true := beq_iff_eq.2 (by omega)
      have hM := Lib.hid hm0
      clear hm0
      cases c0 : AddrC.fineB f.r1 f.r2 f.r3 f.r4 <;> cases c2 : noOB f
      all_goals
        go_wp2_with fail
        go_ret
        exact ⟨by rw [HE.out]; simp [v0, c0, c2, hM.out], HB2.out⟩
    · have e0 : ((m : Int) == 0) = false := beq_eq_false_iff_ne.2 (by omega)
      have hM := Lib.hid hm0
      clear hm0
      cases c0 : AddrC.fineB f.r1 f.r2 f.r3 f.r4 <;> cases c2 : noOB f
      all_goals
        go_wp2_with fail
        go_ret
        exact ⟨by rw [HE.out]; simp [v0, c0, c2, hM.out], HB2.out⟩

set_option maxRecDepth 100000 in
set_option maxHeartbeats 1000000 in
theorem rfits4 (f : Fld) (A : Option Addr) (m c : Nat) (w : World) (hm : m ≤ 1000000) (ho : f.op.size ≤ 1000000) (hk : f.k = 4) :
    Calls Tryz.prog 33 #[.agg #[.int .i64 f.k, .int .i64 f.vk, .int .i64 f.vn, .string f.vs, .int .i64 f.r1, .int .i64 f.r2, .int .i64 f.r3, .int .i64 f.r4, .string f.op, .slice A m c]] w fun e w' => e = .returned (.bool (fitsB f m)) ∧ Below w.heap.size w w' := by
  have HB1 : Hid (Below w.heap.size w (w.alloc (.cells #[.int .i64 f.k, .int .i64 f.vk, .int .i64 f.vn, .string f.vs, .int .i64 f.r1, .int .i64 f.r2, .int .i64 f.r3, .int .i64 f.r4, .string f.op, .slice A m c] 31))) := Lib.hid ((Below.refl _ _).alloc (Nat.le_refl _) _)
  have L1 : NLoc (w.alloc (.cells #[.int .i64 f.k, .int .i64 f.vk, .int .i64 f.vn, .string f.vs, .int .i64 f.r1, .int .i64 f.r2, .int .i64 f.r3, .int .i64 f.r4, .string f.op, .slice A m c] 31)) w.heap.size f A m c := ⟨heap_alloc_new _ _⟩
  have eV : ∀ W, (binOp .eql 24 (.agg #[.int .i64 f.vk, .int .i64 f.vn, .string f.vs]) (.agg #[.int .i64 0, .int .i64 0, .string { data := #[] }])).run Tryz.prog W = .ok (.bool (noVB f)) W := fun W => ValueC.eqs _ _ _ _ _ _ W
  have eR : ∀ W, (binOp .eql 28 (.agg #[.int .i64 f.r1, .int .i64 f.r2, .int .i64 f.r3, .int .i64 f.r4]) (.agg #[.int .i64 0, .int .i64 0, .int .i64 0, .int .i64 0])).run Tryz.prog W = .ok (.bool (noRB f)) W := fun W => eq_rect _ _ _ _ _ _ _ _ W
  have eO : (f.op.toList == []) = noOB f := rfl
  generalize hD : fitsB f m = D
  have HD := Lib.hid hD.symm
  clear hD
  have HK := Lib.hid hk
  clear hk
  obtain ⟨d0, d1, d2, d3, d4, d5, d6, d7, d8, d9, -⟩ := L1.cells
  have b1 : (f.k == 1) = false := beq_eq_false_iff_ne.2 (by rw [HK.out]; decide)
  have b2 : (f.k == 2) = false := beq_eq_false_iff_ne.2 (by rw [HK.out]; decide)
  have b3 : (f.k == 3) = false := beq_eq_false_iff_ne.2 (by rw [HK.out]; decide)
  have b4 : (f.k == 4) = true := beq_iff_eq.2 HK.out
  have HE : Hid (D = (decide (m = 1) && noVB f && noRB f && noOB f)) := Lib.hid (HD.out.trans (by simp [fitsB, HK.out]))
  clear HD
  cases v1 : noRB f <;> cases v0 : noVB f
  · have HC := Lib.hid (And.intro True.intro True.intro)
    go_enter Tryz.func33, Tryz.ntmps33
    go_wp2_with fail
    go_ret
    exact ⟨by rw [HE.out]; simp [v0, v1], HB1.out⟩
  · have HC := Lib.hid (And.intro True.intro True.intro)
    go_enter Tryz.func33, Tryz.ntmps33
    go_wp2_with fail
    go_ret
    exact ⟨by rw [HE.out]; simp [v0, v1], HB1.out⟩
  · have HC := Lib.hid (And.intro True.intro True.intro)
    go_enter Tryz.func33, Tryz.ntmps33
    go_wp2_with fail
    go_ret
    exact ⟨by rw [HE.out]; simp [v0, v1], HB1.out⟩
  · have HC := Lib.hid (And.intro True.intro True.intro)
    have HK2 := HK
    by_cases hm0 : m = 1
    · have e0 : ((m : Int) == 1) = true := beq_iff_eq.2 (by omega)
      have hM := Lib.hid hm0
      clear hm0
      cases c2 : noOB f
      all_goals
        go_enter Tryz.func33, Tryz.ntmps33
        go_wp2_with fail
        go_ret
        exact ⟨by rw [HE.out]; simp [v0, v1, c2, hM.out], HB1.out⟩
    · have e0 : ((m : Int) == 1) = false := beq_eq_false_iff_ne.2 (by omega)
      have hM := Lib.hid hm0
      clear hm0
      cases c2 : noOB f
      all_goals
        go_enter Tryz.func33, Tryz.ntmps33
        go_wp2_with fail
        go_ret
        exact ⟨by rw [HE.out]; simp [v0, v1, c2, hM.out], HB1.out⟩

set_option maxRecDepth 100000 in
set_option maxHeartbeats 1000000 in
theorem rfits5 (f : Fld) (A : Option Addr) (m c : Nat) (w : World) (hm : m ≤ 1000000) (ho : f.op.size ≤ 1000000) (hk : f.k = 5) :
    Calls Tryz.prog 33 #[.agg #[.int .i64 f.k, .int .i64 f.vk, .int .i64 f.vn, .string f.vs, .int .i64 f.r1, .int .i64 f.r2, .int .i64 f.r3, .int .i64 f.r4, .string f.op, .slice A m c]] w fun e w' => e = .returned (.bool (fitsB f m)) ∧ Below w.heap.size w w' := by
  have HB1 : Hid (Below w.heap.size w (w.alloc (.cells #[.int .i64 f.k, .int .i64 f.vk, .int .i64 f.vn, .string f.vs, .int .i64 f.r1, .int .i64 f.r2, .int .i64 f.r3, .int .i64 f.r4, .string f.op, .slice A m c] 31))) := Lib.hid ((Below.refl _ _).alloc (Nat.le_refl _) _)
  have L1 : NLoc (w.alloc (.cells #[.int .i64 f.k, .int .i64 f.vk, .int .i64 f.vn, .string f.vs, .int .i64 f.r1, .int .i64 f.r2, .int .i64 f.r3, .int .i64 f.r4, .string f.op, .slice A m c] 31)) w.heap.size f A m c := ⟨heap_alloc_new _ _⟩
  have eV : ∀ W, (binOp .eql 24 (.agg #[.int .i64 f.vk, .int .i64 f.vn, .string f.vs]) (.agg #[.int .i64 0, .int .i64 0, .string { data := #[] }])).run Tryz.prog W = .ok (.bool (noVB f)) W := fun W => ValueC.eqs _ _ _ _ _ _ W
  have eR : ∀ W, (binOp .eql 28 (.agg #[.int .i64 f.r1, .int .i64 f.r2, .int .i64 f.r3, .int .i64 f.r4]) (.agg #[.int .i64 0, .int .i64 0, .int .i64 0, .int .i64 0])).run Tryz.prog W = .ok (.bool (noRB f)) W := fun W => eq_rect _ _ _ _ _ _ _ _ W
  have eO : (f.op.toList == []) = noOB f := rfl
  generalize hD : fitsB f m = D
  have HD := Lib.hid hD.symm
  clear hD
  have HK := Lib.hid hk
  clear hk
  obtain ⟨d0, d1, d2, d3, d4, d5, d6, d7, d8, d9, -⟩ := L1.cells
  have b1 : (f.k == 1) = false := beq_eq_false_iff_ne.2 (by rw [HK.out]; decide)
  have b2 : (f.k == 2) = false := beq_eq_false_iff_ne.2 (by rw [HK.out]; decide)
  have b3 : (f.k == 3) = false := beq_eq_false_iff_ne.2 (by rw [HK.out]; decide)
  have b4 : (f.k == 4) = false := beq_eq_false_iff_ne.2 (by rw [HK.out]; decide)
  have b5 : (f.k == 5) = true := beq_iff_eq.2 HK.out
  have HE : Hid (D = (binB f.op && decide (m = 2) && noVB f && noRB f)) := Lib.hid (HD.out.trans (by simp [fitsB, HK.out]))
  clear HD
  cases v1 : noRB f <;> cases v0 : noVB f
  · have HC := Lib.hid (And.intro True.intro True.intro)
    go_enter Tryz.func33, Tryz.ntmps33
    go_wp2_with fail
    go_ret
    exact ⟨by rw [HE.out]; simp [v0, v1], HB1.out⟩
  · have HC := Lib.hid (And.intro True.intro True.intro)
    go_enter Tryz.func33, Tryz.ntmps33
    go_wp2_with fail
    go_ret
    exact ⟨by rw [HE.out]; simp [v0, v1], HB1.out⟩
  · have HC := Lib.hid (And.intro True.intro True.intro)
    go_enter Tryz.func33, Tryz.ntmps33
    go_wp2_with fail
    go_ret
    exact ⟨by rw [HE.out]; simp [v0, v1], HB1.out⟩
  · have HC := Lib.hid (And.intro True.intro True.intro)
    go_enter Tryz.func33, Tryz.ntmps33
    go_wp2_with fail
    refine (rsignOp f.op _).mono ?_; rintro e w2 ⟨rfl, hb2⟩
    have L2 := L1.kept (Kept.of hb2) (Nat.ne_of_lt L1.lt)
    have HB2 := Lib.hid (HB1.out.trans (hb2.mono HB1.out.size))
    clear d0 d1 d2 d3 d4 d5 d6 d7 d8 d9 hb2 L1
    obtain ⟨d0, d1, d2, d3, d4, d5, d6, d7, d8, d9, -⟩ := L2.cells
    by_cases hm0 : m = 2
    · have e0 : ((m : Int) == 2) = true := beq_iff_eq.2 (by omega)
      have hM := Lib.hid hm0
      clear hm0
      cases c0 : binB f.op
      all_goals
        go_wp2_with fail
        go_ret
        exact ⟨by rw [HE.out]; simp [v0, v1, c0, hM.out], HB2.out⟩
    · have e0 : ((m : Int) == 2) = false := beq_eq_false_iff_ne.2 (by omega)
      have hM := Lib.hid hm0
      clear hm0
      cases c0 : binB f.op
      all_goals
        go_wp2_with fail
        go_ret
        exact ⟨by rw [HE.out]; simp [v0, v1, c0, hM.out], HB2.out⟩

theorem rword6 (s : ByteArray) (w : World) (hs : s.size ≤ 1000000) : Calls Tryz.prog 50 #[.string s] w fun e w' => e = .returned (.bool (fnB s)) ∧ Below w.heap.size w w' :=
  (rword s w hs).mono fun e w' ⟨h1, h2⟩ => ⟨by rw [h1, fn_word], by rw [h2]; exact Below.refl _ _⟩
set_option maxRecDepth 100000 in
set_option maxHeartbeats 1000000 in
theorem rfits6 (f : Fld) (A : Option Addr) (m c : Nat) (w : World) (hm : m ≤ 1000000) (ho : f.op.size ≤ 1000000) (hk : f.k = 6) :
    Calls Tryz.prog 33 #[.agg #[.int .i64 f.k, .int .i64 f.vk, .int .i64 f.vn, .string f.vs, .int .i64 f.r1, .int .i64 f.r2, .int .i64 f.r3, .int .i64 f.r4, .string f.op, .slice A m c]] w fun e w' => e = .returned (.bool (fitsB f m)) ∧ Below w.heap.size w w' := by
  have HB1 : Hid (Below w.heap.size w (w.alloc (.cells #[.int .i64 f.k, .int .i64 f.vk, .int .i64 f.vn, .string f.vs, .int .i64 f.r1, .int .i64 f.r2, .int .i64 f.r3, .int .i64 f.r4, .string f.op, .slice A m c] 31))) := Lib.hid ((Below.refl _ _).alloc (Nat.le_refl _) _)
  have L1 : NLoc (w.alloc (.cells #[.int .i64 f.k, .int .i64 f.vk, .int .i64 f.vn, .string f.vs, .int .i64 f.r1, .int .i64 f.r2, .int .i64 f.r3, .int .i64 f.r4, .string f.op, .slice A m c] 31)) w.heap.size f A m c := ⟨heap_alloc_new _ _⟩
  have eV : ∀ W, (binOp .eql 24 (.agg #[.int .i64 f.vk, .int .i64 f.vn, .string f.vs]) (.agg #[.int .i64 0, .int .i64 0, .string { data := #[] }])).run Tryz.prog W = .ok (.bool (noVB f)) W := fun W => ValueC.eqs _ _ _ _ _ _ W
  have eR : ∀ W, (binOp .eql 28 (.agg #[.int .i64 f.r1, .int .i64 f.r2, .int .i64 f.r3, .int .i64 f.r4]) (.agg #[.int .i64 0, .int .i64 0, .int .i64 0, .int .i64 0])).run Tryz.prog W = .ok (.bool (noRB f)) W := fun W => eq_rect _ _ _ _ _ _ _ _ W
  have eO : (f.op.toList == []) = noOB f := rfl
  generalize hD : fitsB f m = D
  have HD := Lib.hid hD.symm
  clear hD
  have HK := Lib.hid hk
  clear hk
  obtain ⟨d0, d1, d2, d3, d4, d5, d6, d7, d8, d9, -⟩ := L1.cells
  have b1 : (f.k == 1) = false := beq_eq_false_iff_ne.2 (by rw [HK.out]; decide)
  have b2 : (f.k == 2) = false := beq_eq_false_iff_ne.2 (by rw [HK.out]; decide)
  have b3 : (f.k == 3) = false := beq_eq_false_iff_ne.2 (by rw [HK.out]; decide)
  have b4 : (f.k == 4) = false := beq_eq_false_iff_ne.2 (by rw [HK.out]; decide)
  have b5 : (f.k == 5) = false := beq_eq_false_iff_ne.2 (by rw [HK.out]; decide)
  have b6 : (f.k == 6) = true := beq_iff_eq.2 HK.out
  have HE : Hid (D = (fnB f.op && decide (m ≤ 10) && noVB f && noRB f)) := Lib.hid (HD.out.trans (by simp [fitsB, HK.out]))
  clear HD
  cases v1 : noRB f <;> cases v0 : noVB f
  · have HC := Lib.hid (And.intro True.intro True.intro)
    go_enter Tryz.func33, Tryz.ntmps33
    go_wp2_with fail
    go_ret
    exact ⟨by rw [HE.out]; simp [v0, v1], HB1.out⟩
  · have HC := Lib.hid (And.intro True.intro True.intro)
    go_enter Tryz.func33, Tryz.ntmps33
    go_wp2_with fail
    go_ret
    exact ⟨by rw [HE.out]; simp [v0, v1], HB1.out⟩
  · have HC := Lib.hid (And.intro True.intro True.intro)
    go_enter Tryz.func33, Tryz.ntmps33
    go_wp2_with fail
    go_ret
    exact ⟨by rw [HE.out]; simp [v0, v1], HB1.out⟩
  · have HC := Lib.hid (And.intro True.intro True.intro)
    go_enter Tryz.func33, Tryz.ntmps33
    go_wp2_with fail
    refine (rword6 f.op _ ho).mono ?_; rintro e w2 ⟨rfl, hb2⟩
    have L2 := L1.kept (Kept.of hb2) (Nat.ne_of_lt L1.lt)
    have HB2 := Lib.hid (HB1.out.trans (hb2.mono HB1.out.size))
    clear d0 d1 d2 d3 d4 d5 d6 d7 d8 d9 hb2 L1
    obtain ⟨d0, d1, d2, d3, d4, d5, d6, d7, d8, d9, -⟩ := L2.cells
    by_cases hm0 : m ≤ 10
    · have e0 : decide ((m : Int) ≤ 10) = true := decide_eq_true (by omega)
      have hM := Lib.hid hm0
      clear hm0
      cases c0 : fnB f.op
      all_goals
        go_wp2_with fail
        go_ret
        exact ⟨by rw [HE.out]; simp [v0, v1, c0, hM.out], HB2.out⟩
    · have e0 : decide ((m : Int) ≤ 10) = false := decide_eq_false (by omega)
      have hM := Lib.hid hm0
      clear hm0
      cases c0 : fnB f.op
      all_goals
        go_wp2_with fail
        go_ret
        exact ⟨by rw [HE.out]; simp [v0, v1, c0, hM.out], HB2.out⟩

set_option maxRecDepth 100000 in
set_option maxHeartbeats 1000000 in
theorem rfits0 (f : Fld) (A : Option Addr) (m c : Nat) (w : World) (hm : m ≤ 1000000) (ho : f.op.size ≤ 1000000) (hk : f.k ≠ 1 ∧ f.k ≠ 2 ∧ f.k ≠ 3 ∧ f.k ≠ 4 ∧ f.k ≠ 5 ∧ f.k ≠ 6) :
    Calls Tryz.prog 33 #[.agg #[.int .i64 f.k, .int .i64 f.vk, .int .i64 f.vn, .string f.vs, .int .i64 f.r1, .int .i64 f.r2, .int .i64 f.r3, .int .i64 f.r4, .string f.op, .slice A m c]] w fun e w' => e = .returned (.bool (fitsB f m)) ∧ Below w.heap.size w w' := by
  have HB1 : Hid (Below w.heap.size w (w.alloc (.cells #[.int .i64 f.k, .int .i64 f.vk, .int .i64 f.vn, .string f.vs, .int .i64 f.r1, .int .i64 f.r2, .int .i64 f.r3, .int .i64 f.r4, .string f.op, .slice A m c] 31))) := Lib.hid ((Below.refl _ _).alloc (Nat.le_refl _) _)
  have L1 : NLoc (w.alloc (.cells #[.int .i64 f.k, .int .i64 f.vk, .int .i64 f.vn, .string f.vs, .int .i64 f.r1, .int .i64 f.r2, .int .i64 f.r3, .int .i64 f.r4, .string f.op, .slice A m c] 31)) w.heap.size f A m c := ⟨heap_alloc_new _ _⟩
  have eV : ∀ W, (binOp .eql 24 (.agg #[.int .i64 f.vk, .int .i64 f.vn, .string f.vs]) (.agg #[.int .i64 0, .int .i64 0, .string { data := #[] }])).run Tryz.prog W = .ok (.bool (noVB f)) W := fun W => ValueC.eqs _ _ _ _ _ _ W
  have eR : ∀ W, (binOp .eql 28 (.agg #[.int .i64 f.r1, .int .i64 f.r2, .int .i64 f.r3, .int .i64 f.r4]) (.agg #[.int .i64 0, .int .i64 0, .int .i64 0, .int .i64 0])).run Tryz.prog W = .ok (.bool (noRB f)) W := fun W => eq_rect _ _ _ _ _ _ _ _ W
  have eO : (f.op.toList == []) = noOB f := rfl
  generalize hD : fitsB f m = D
  have HD := Lib.hid hD.symm
  clear hD
  have HK := Lib.hid hk
  clear hk
  obtain ⟨d0, d1, d2, d3, d4, d5, d6, d7, d8, d9, -⟩ := L1.cells
  have b1 : (f.k == 1) = false := beq_eq_false_iff_ne.2 HK.out.1
  have b2 : (f.k == 2) = false := beq_eq_false_iff_ne.2 HK.out.2.1
  have b3 : (f.k == 3) = false := beq_eq_false_iff_ne.2 HK.out.2.2.1
  have b4 : (f.k == 4) = false := beq_eq_false_iff_ne.2 HK.out.2.2.2.1
  have b5 : (f.k == 5) = false := beq_eq_false_iff_ne.2 HK.out.2.2.2.2.1
  have b6 : (f.k == 6) = false := beq_eq_false_iff_ne.2 HK.out.2.2.2.2.2
  have HE : Hid (D = false) := Lib.hid (HD.out.trans (by simp [fitsB, HK.out.1, HK.out.2.1, HK.out.2.2.1, HK.out.2.2.2.1, HK.out.2.2.2.2.1, HK.out.2.2.2.2.2]))
  clear HD
  go_enter Tryz.func33, Tryz.ntmps33
  go_wp2_with fail
  go_ret
  exact ⟨by rw [HE.out]; rfl, HB1.out⟩

theorem rfits (f : Fld) (A : Option Addr) (m c : Nat) (w : World) (hm : m ≤ 1000000) (ho : f.op.size ≤ 1000000) :
    Calls Tryz.prog 33 #[.agg #[.int .i64 f.k, .int .i64 f.vk, .int .i64 f.vn, .string f.vs, .int .i64 f.r1, .int .i64 f.r2, .int .i64 f.r3, .int .i64 f.r4, .string f.op, .slice A m c]] w fun e w' => e = .returned (.bool (fitsB f m)) ∧ Below w.heap.size w w' := by
  by_cases h1 : f.k = 1
  · exact rfits1 f A m c w hm ho h1
  by_cases h2 : f.k = 2
  · exact rfits2 f A m c w hm ho h2
  by_cases h3 : f.k = 3
  · exact rfits3 f A m c w hm ho h3
  by_cases h4 : f.k = 4
  · exact rfits4 f A m c w hm ho h4
  by_cases h5 : f.k = 5
  · exact rfits5 f A m c w hm ho h5
  by_cases h6 : f.k = 6
  · exact rfits6 f A m c w hm ho h6
  exact rfits0 f A m c w hm ho ⟨h1, h2, h3, h4, h5, h6⟩

end Go.Proofs.YtkdgiadpmfpjnaaGreatDoor.TreeC
