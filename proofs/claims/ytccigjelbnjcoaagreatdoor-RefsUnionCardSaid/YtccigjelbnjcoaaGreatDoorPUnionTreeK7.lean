/-
  Contract of the reference's fine.
-/
import Derived.Test.YtccigjelbnjcoaaGreatDoorPUnionTreeV
import Derived.Test.YtccigjelbnjcoaaGreatDoorPUnionAddrF
import Derived.Test.YtccigjelbnjcoaaGreatDoorPUnionTreeP8
import Derived.Test.YtccigjelbnjcoaaGreatDoorPUnionLexF
namespace Go.Proofs.YtccigjelbnjcoaaGreatDoor.TreeC
set_option linter.unusedVariables false
open Go.RowKit Go.Proofs.YtccigjelbnjcoaaGreatDoor.NumC Go.Proofs.YtccigjelbnjcoaaGreatDoor.LexC
set_option maxRecDepth 100000 in
set_option maxHeartbeats 1000000 in
theorem rfits1 (f : Fld) (A : Option Addr) (m c : Nat) (w : World) (hm : m ≤ 1000000) (ho : f.op.size ≤ 1000000) (hk : f.k = 1) :
    Calls Tryz.prog 42 #[.agg #[.int .i64 f.k, .int .i64 f.vk, .int .i64 f.vn, .string f.vs, .int .i64 f.r1, .int .i64 f.r2, .int .i64 f.r3, .int .i64 f.r4, .string f.op, .slice A m c]] w fun e w' => e = .returned (.bool (fitsB f m)) ∧ Below w.heap.size w w' := by
  have HB1 : Hid (Below w.heap.size w (w.alloc (.cells #[.int .i64 f.k, .int .i64 f.vk, .int .i64 f.vn, .string f.vs, .int .i64 f.r1, .int .i64 f.r2, .int .i64 f.r3, .int .i64 f.r4, .string f.op, .slice A m c] 30))) := Lib.hid ((Below.refl _ _).alloc (Nat.le_refl _) _)
  have L1 : NLoc (w.alloc (.cells #[.int .i64 f.k, .int .i64 f.vk, .int .i64 f.vn, .string f.vs, .int .i64 f.r1, .int .i64 f.r2, .int .i64 f.r3, .int .i64 f.r4, .string f.op, .slice A m c] 30)) w.heap.size f A m c := ⟨heap_alloc_new _ _⟩
  have eV : ∀ W, (binOp .eql 23 (.agg #[.int .i64 f.vk, .int .i64 f.vn, .string f.vs]) (.agg #[.int .i64 0, .int .i64 0, .string { data := #[] }])).run Tryz.prog W = .ok (.bool (noVB f)) W := fun W => ValueC.eqs _ _ _ _ _ _ W
  have eR : ∀ W, (binOp .eql 27 (.agg #[.int .i64 f.r1, .int .i64 f.r2, .int .i64 f.r3, .int .i64 f.r4]) (.agg #[.int .i64 0, .int .i64 0, .int .i64 0, .int .i64 0])).run Tryz.prog W = .ok (.bool (noRB f)) W := fun W => eq_rect _ _ _ _ _ _ _ _ W
  have eO : (f.op.toList == []) = noOB f := rfl
  generalize hD : fitsB f m = D
  have HD := Lib.hid hD.symm
  clear hD
  have HK := Lib.hid hk
  clear hk
  obtain ⟨d0, d1, d2, d3, d4, d5, d6, d7, d8, d9, -⟩ := L1.cells
  have b1 : (f.k == 1) = true := beq_iff_eq.2 HK.out
  have hvn : Hid (f.vn = f.vn) := Lib.hid rfl
  by_cases v2 : f.vk = 2
  · by_cases vn : 0 ≤ f.vn
    · have t2 : (f.vk == 2) = true := beq_iff_eq.2 v2
      have tn : decide (0 ≤ f.vn) = true := decide_eq_true vn
      have HE : Hid (D = (ValueC.goodB ⟨f.vk, f.vn, f.vs⟩ && noRB f && noOB f && decide (m = 0))) := Lib.hid (HD.out.trans (by simp [fitsB, constB, HK.out, v2, vn]))
      clear HD v2 vn
      go_enter Tryz.func42, Tryz.ntmps42
      go_wp2_with fail
      refine (ValueC.rgood_of f.vk f.vn f.vs _).mono ?_; rintro e w2 ⟨rfl, hb2⟩
      have L2 := L1.kept (Kept.of hb2) (Nat.ne_of_lt L1.lt)
      have HB2 := Lib.hid (HB1.out.trans (hb2.mono HB1.out.size))
      clear d0 d1 d2 d3 d4 d5 d6 d7 d8 d9 hb2 L1
      obtain ⟨d0, d1, d2, d3, d4, d5, d6, d7, d8, d9, -⟩ := L2.cells
      by_cases hm0 : m = 0
      · have e0 : ((m : Int) == 0) = true := beq_iff_eq.2 (by omega)
        have hM := Lib.hid hm0
        clear hm0
        cases c0 : ValueC.goodB ⟨f.vk, f.vn, f.vs⟩ <;> cases c1 : noRB f <;> cases c2 : noOB f
        all_goals
          go_wp2_with fail
          go_ret
          exact ⟨by rw [HE.out]; simp [c0, c1, c2, hM.out], HB2.out⟩
      · have e0 : ((m : Int) == 0) = false := beq_eq_false_iff_ne.2 (by omega)
        have hM := Lib.hid hm0
        clear hm0
        cases c0 : ValueC.goodB ⟨f.vk, f.vn, f.vs⟩ <;> cases c1 : noRB f <;> cases c2 : noOB f
        all_goals
          go_wp2_with fail
          go_ret
          exact ⟨by rw [HE.out]; simp [c0, c1, c2, hM.out], HB2.out⟩
    · have t2 : (f.vk == 2) = true := beq_iff_eq.2 v2
      have t3 : (f.vk == 3) = false := beq_eq_false_iff_ne.2 (by omega)
      have t1 : (f.vk == 1) = false := beq_eq_false_iff_ne.2 (by omega)
      have tn : decide (0 ≤ f.vn) = false := decide_eq_false vn
      have HE : Hid (D = false) := Lib.hid (HD.out.trans (by simp [fitsB, constB, HK.out, v2, vn]))
      clear HD v2 vn
      go_enter Tryz.func42, Tryz.ntmps42
      go_wp2_with fail
      go_wp2_with fail
      go_ret
      exact ⟨by rw [HE.out]; rfl, HB1.out⟩
  · by_cases v3 : f.vk = 3
    · have t2 : (f.vk == 2) = false := beq_eq_false_iff_ne.2 (by omega)
      have t3 : (f.vk == 3) = true := beq_iff_eq.2 v3
      have HE : Hid (D = (ValueC.goodB ⟨f.vk, f.vn, f.vs⟩ && noRB f && noOB f && decide (m = 0))) := Lib.hid (HD.out.trans (by simp [fitsB, constB, HK.out, v3]))
      clear HD v2 v3
      go_enter Tryz.func42, Tryz.ntmps42
      go_wp2_with fail
      refine (ValueC.rgood_of f.vk f.vn f.vs _).mono ?_; rintro e w2 ⟨rfl, hb2⟩
      have L2 := L1.kept (Kept.of hb2) (Nat.ne_of_lt L1.lt)
      have HB2 := Lib.hid (HB1.out.trans (hb2.mono HB1.out.size))
      clear d0 d1 d2 d3 d4 d5 d6 d7 d8 d9 hb2 L1
      obtain ⟨d0, d1, d2, d3, d4, d5, d6, d7, d8, d9, -⟩ := L2.cells
      by_cases hm0 : m = 0
      · have e0 : ((m : Int) == 0) = true := beq_iff_eq.2 (by omega)
        have hM := Lib.hid hm0
        clear hm0
        cases c0 : ValueC.goodB ⟨f.vk, f.vn, f.vs⟩ <;> cases c1 : noRB f <;> cases c2 : noOB f
        all_goals
          go_wp2_with fail
          go_ret
          exact ⟨by rw [HE.out]; simp [c0, c1, c2, hM.out], HB2.out⟩
      · have e0 : ((m : Int) == 0) = false := beq_eq_false_iff_ne.2 (by omega)
        have hM := Lib.hid hm0
        clear hm0
        cases c0 : ValueC.goodB ⟨f.vk, f.vn, f.vs⟩ <;> cases c1 : noRB f <;> cases c2 : noOB f
        all_goals
          go_wp2_with fail
          go_ret
          exact ⟨by rw [HE.out]; simp [c0, c1, c2, hM.out], HB2.out⟩
    · by_cases v1 : f.vk = 1
      · have t2 : (f.vk == 2) = false := beq_eq_false_iff_ne.2 (by omega)
        have t3 : (f.vk == 3) = false := beq_eq_false_iff_ne.2 (by omega)
        have t1 : (f.vk == 1) = true := beq_iff_eq.2 v1
        have HE : Hid (D = (ValueC.goodB ⟨f.vk, f.vn, f.vs⟩ && noRB f && noOB f && decide (m = 0))) := Lib.hid (HD.out.trans (by simp [fitsB, constB, HK.out, v1]))
        clear HD v1 v2 v3
        go_enter Tryz.func42, Tryz.ntmps42
        go_wp2_with fail
        refine (ValueC.rgood_of f.vk f.vn f.vs _).mono ?_; rintro e w2 ⟨rfl, hb2⟩
        have L2 := L1.kept (Kept.of hb2) (Nat.ne_of_lt L1.lt)
        have HB2 := Lib.hid (HB1.out.trans (hb2.mono HB1.out.size))
        clear d0 d1 d2 d3 d4 d5 d6 d7 d8 d9 hb2 L1
        obtain ⟨d0, d1, d2, d3, d4, d5, d6, d7, d8, d9, -⟩ := L2.cells
        by_cases hm0 : m = 0
        · have e0 : ((m : Int) == 0) = true := beq_iff_eq.2 (by omega)
          have hM := Lib.hid hm0
          clear hm0
          cases c0 : ValueC.goodB ⟨f.vk, f.vn, f.vs⟩ <;> cases c1 : noRB f <;> cases c2 : noOB f
          all_goals
            go_wp2_with fail
            go_ret
            exact ⟨by rw [HE.out]; simp [c0, c1, c2, hM.out], HB2.out⟩
        · have e0 : ((m : Int) == 0) = false := beq_eq_false_iff_ne.2 (by omega)
          have hM := Lib.hid hm0
          clear hm0
          cases c0 : ValueC.goodB ⟨f.vk, f.vn, f.vs⟩ <;> cases c1 : noRB f <;> cases c2 : noOB f
          all_goals
            go_wp2_with fail
            go_ret
            exact ⟨by rw [HE.out]; simp [c0, c1, c2, hM.out], HB2.out⟩
      · have t2 : (f.vk == 2) = false := beq_eq_false_iff_ne.2 (by omega)
        have t3 : (f.vk == 3) = false := beq_eq_false_iff_ne.2 (by omega)
        have t1 : (f.vk == 1) = false := beq_eq_false_iff_ne.2 (by omega)
        have HE : Hid (D = false) := Lib.hid (HD.out.trans (by simp [fitsB, constB, HK.out, v1, v2, v3]))
        clear HD v1 v2 v3
        go_enter Tryz.func42, Tryz.ntmps42
        go_wp2_with fail
        go_wp2_with fail
        go_ret
        exact ⟨by rw [HE.out]; rfl, HB1.out⟩
set_option maxRecDepth 100000 in
set_option maxHeartbeats 1000000 in
theorem rfits2 (f : Fld) (A : Option Addr) (m c : Nat) (w : World) (hm : m ≤ 1000000) (ho : f.op.size ≤ 1000000) (hk : f.k = 2) :
    Calls Tryz.prog 42 #[.agg #[.int .i64 f.k, .int .i64 f.vk, .int .i64 f.vn, .string f.vs, .int .i64 f.r1, .int .i64 f.r2, .int .i64 f.r3, .int .i64 f.r4, .string f.op, .slice A m c]] w fun e w' => e = .returned (.bool (fitsB f m)) ∧ Below w.heap.size w w' := by
  have HB1 : Hid (Below w.heap.size w (w.alloc (.cells #[.int .i64 f.k, .int .i64 f.vk, .int .i64 f.vn, .string f.vs, .int .i64 f.r1, .int .i64 f.r2, .int .i64 f.r3, .int .i64 f.r4, .string f.op, .slice A m c] 30))) := Lib.hid ((Below.refl _ _).alloc (Nat.le_refl _) _)
  have L1 : NLoc (w.alloc (.cells #[.int .i64 f.k, .int .i64 f.vk, .int .i64 f.vn, .string f.vs, .int .i64 f.r1, .int .i64 f.r2, .int .i64 f.r3, .int .i64 f.r4, .string f.op, .slice A m c] 30)) w.heap.size f A m c := ⟨heap_alloc_new _ _⟩
  have eV : ∀ W, (binOp .eql 23 (.agg #[.int .i64 f.vk, .int .i64 f.vn, .string f.vs]) (.agg #[.int .i64 0, .int .i64 0, .string { data := #[] }])).run Tryz.prog W = .ok (.bool (noVB f)) W := fun W => ValueC.eqs _ _ _ _ _ _ W
  have eR : ∀ W, (binOp .eql 27 (.agg #[.int .i64 f.r1, .int .i64 f.r2, .int .i64 f.r3, .int .i64 f.r4]) (.agg #[.int .i64 0, .int .i64 0, .int .i64 0, .int .i64 0])).run Tryz.prog W = .ok (.bool (noRB f)) W := fun W => eq_rect _ _ _ _ _ _ _ _ W
  have eT : ∀ W, (binOp .eql 25 (.agg #[.int .i64 f.r3, .int .i64 f.r4]) (.agg #[.int .i64 0, .int .i64 0])).run Tryz.prog W = .ok (.bool (noTB f)) W := fun W => eq_addr _ _ _ _ W
  have eO : (f.op.toList == []) = noOB f := rfl
  generalize hD : fitsB f m = D
  have HD := Lib.hid hD.symm
  clear hD
  have HK := Lib.hid hk
  clear hk
  obtain ⟨d0, d1, d2, d3, d4, d5, d6, d7, d8, d9, -⟩ := L1.cells
  have b1 : (f.k == 1) = false := beq_eq_false_iff_ne.2 (by rw [HK.out]; decide)
  have b2 : (f.k == 2) = true := beq_iff_eq.2 HK.out
  have HE : Hid (D = (AddrC.cellB f.r1 f.r2 && noTB f && noVB f && noOB f && decide (m = 0))) := Lib.hid (HD.out.trans (by simp [fitsB, HK.out]))
  clear HD
  cases v0 : noVB f
  · have HC := Lib.hid (And.intro True.intro True.intro)
    go_enter Tryz.func42, Tryz.ntmps42
    go_wp2_with fail
    go_ret
    exact ⟨by rw [HE.out]; simp [v0], HB1.out⟩
  · have HC := Lib.hid (And.intro True.intro True.intro)
    go_enter Tryz.func42, Tryz.ntmps42
    go_wp2_with fail
    refine (AddrC.rgood f.r1 f.r2 _).mono ?_; rintro e w2 ⟨rfl, hb2⟩
    have L2 := L1.kept (Kept.of hb2) (Nat.ne_of_lt L1.lt)
    have HB2 := Lib.hid (HB1.out.trans (hb2.mono HB1.out.size))
    clear d0 d1 d2 d3 d4 d5 d6 d7 d8 d9 hb2 L1
    obtain ⟨d0, d1, d2, d3, d4, d5, d6, d7, d8, d9, -⟩ := L2.cells
    by_cases hm0 : m = 0
    · have e0 : ((m : Int) == 0) = true := beq_iff_eq.2 (by omega)
      have hM := Lib.hid hm0
      clear hm0
      cases c0 : AddrC.cellB f.r1 f.r2 <;> cases c1 : noTB f <;> cases c2 : noOB f
      all_goals
        go_wp2_with fail
        go_ret
        exact ⟨by rw [HE.out]; simp [v0, c0, c1, c2, hM.out], HB2.out⟩
    · have e0 : ((m : Int) == 0) = false := beq_eq_false_iff_ne.2 (by omega)
      have hM := Lib.hid hm0
      clear hm0
      cases c0 : AddrC.cellB f.r1 f.r2 <;> cases c1 : noTB f <;> cases c2 : noOB f
      all_goals
        go_wp2_with fail
        go_ret
        exact ⟨by rw [HE.out]; simp [v0, c0, c1, c2, hM.out], HB2.out⟩
set_option maxRecDepth 100000 in
set_option maxHeartbeats 1000000 in
theorem rfits3 (f : Fld) (A : Option Addr) (m c : Nat) (w : World) (hm : m ≤ 1000000) (ho : f.op.size ≤ 1000000) (hk : f.k = 3) :
    Calls Tryz.prog 42 #[.agg #[.int .i64 f.k, .int .i64 f.vk, .int .i64 f.vn, .string f.vs, .int .i64 f.r1, .int .i64 f.r2, .int .i64 f.r3, .int .i64 f.r4, .string f.op, .slice A m c]] w fun e w' => e = .returned (.bool (fitsB f m)) ∧ Below w.heap.size w w' := by
  have HB1 : Hid (Below w.heap.size w (w.alloc (.cells #[.int .i64 f.k, .int .i64 f.vk, .int .i64 f.vn, .string f.vs, .int .i64 f.r1, .int .i64 f.r2, .int .i64 f.r3, .int .i64 f.r4, .string f.op, .slice A m c] 30))) := Lib.hid ((Below.refl _ _).alloc (Nat.le_refl _) _)
  have L1 : NLoc (w.alloc (.cells #[.int .i64 f.k, .int .i64 f.vk, .int .i64 f.vn, .string f.vs, .int .i64 f.r1, .int .i64 f.r2, .int .i64 f.r3, .int .i64 f.r4, .string f.op, .slice A m c] 30)) w.heap.size f A m c := ⟨heap_alloc_new _ _⟩
  have eV : ∀ W, (binOp .eql 23 (.agg #[.int .i64 f.vk, .int .i64 f.vn, .string f.vs]) (.agg #[.int .i64 0, .int .i64 0, .string { data := #[] }])).run Tryz.prog W = .ok (.bool (noVB f)) W := fun W => ValueC.eqs _ _ _ _ _ _ W
  have eR : ∀ W, (binOp .eql 27 (.agg #[.int .i64 f.r1, .int .i64 f.r2, .int .i64 f.r3, .int .i64 f.r4]) (.agg #[.int .i64 0, .int .i64 0, .int .i64 0, .int .i64 0])).run Tryz.prog W = .ok (.bool (noRB f)) W := fun W => eq_rect _ _ _ _ _ _ _ _ W
  have eO : (f.op.toList == []) = noOB f := rfl
  generalize hD : fitsB f m = D
  have HD := Lib.hid hD.symm
  clear hD
  have HK := Lib.hid hk
  clear hk
  obtain ⟨d0, d1, d2, d3, d4, d5, d6, d7, d8, d9, -⟩ := L1.cells
  have b1 : (f.k == 1) = false := beq_eq_false_iff_ne.2 (by rw [HK.out]; decide)
  have b2 : (f.k == 2) = false := beq_eq_false_iff_ne.2 (by rw [HK.out]; decide)
  have b3 : (f.k == 3) = true := beq_iff_eq.2 HK.out
  have HE : Hid (D = (AddrC.fineB f.r1 f.r2 f.r3 f.r4 && noVB f && noOB f && decide (m = 0))) := Lib.hid (HD.out.trans (by simp [fitsB, HK.out]))
  clear HD
  cases v0 : noVB f
  · have HC := Lib.hid (And.intro True.intro True.intro)
    go_enter Tryz.func42, Tryz.ntmps42
    go_wp2_with fail
    go_ret
    exact ⟨by rw [HE.out]; simp [v0], HB1.out⟩
  · have HC := Lib.hid (And.intro True.intro True.intro)
    go_enter Tryz.func42, Tryz.ntmps42
    go_wp2_with fail
    refine (AddrC.rfine f.r1 f.r2 f.r3 f.r4 _).mono ?_; rintro e w2 ⟨rfl, hb2⟩
    have L2 := L1.kept (Kept.of hb2) (Nat.ne_of_lt L1.lt)
    have HB2 := Lib.hid (HB1.out.trans (hb2.mono HB1.out.size))
    clear d0 d1 d2 d3 d4 d5 d6 d7 d8 d9 hb2 L1
    obtain ⟨d0, d1, d2, d3, d4, d5, d6, d7, d8, d9, -⟩ := L2.cells
    by_cases hm0 : m = 0
    · have e0 : ((m : Int) == 0) = true := beq_iff_eq.2 (by omega)
      have hM := Lib.hid hm0
      clear hm0
      cases c0 : AddrC.fineB f.r1 f.r2 f.r3 f.r4 <;> cases c2 : noOB f
      all_goals
        go_wp2_with fail
        go_ret
        exact ⟨by rw [HE.out]; simp [v0, c0, c2, hM.out], HB2.out⟩
    · have e0 : ((m : Int) == 0) = false := beq_eq_false_iff_ne.2 (by omega)
      have hM := Lib.hid hm0
      clear hm0
      cases c0 : AddrC.fineB f.r1 f.r2 f.r3 f.r4 <;> cases c2 : noOB f
      all_goals
        go_wp2_with fail
        go_ret
        exact ⟨by rw [HE.out]; simp [v0, c0, c2, hM.out], HB2.out⟩
set_option maxRecDepth 100000 in
set_option maxHeartbeats 1000000 in
theorem rfits4 (f : Fld) (A : Option Addr) (m c : Nat) (w : World) (hm : m ≤ 1000000) (ho : f.op.size ≤ 1000000) (hk : f.k = 4) :
    Calls Tryz.prog 42 #[.agg #[.int .i64 f.k, .int .i64 f.vk, .int .i64 f.vn, .string f.vs, .int .i64 f.r1, .int .i64 f.r2, .int .i64 f.r3, .int .i64 f.r4, .string f.op, .slice A m c]] w fun e w' => e = .returned (.bool (fitsB f m)) ∧ Below w.heap.size w w' := by
  have HB1 : Hid (Below w.heap.size w (w.alloc (.cells #[.int .i64 f.k, .int .i64 f.vk, .int .i64 f.vn, .string f.vs, .int .i64 f.r1, .int .i64 f.r2, .int .i64 f.r3, .int .i64 f.r4, .string f.op, .slice A m c] 30))) := Lib.hid ((Below.refl _ _).alloc (Nat.le_refl _) _)
  have L1 : NLoc (w.alloc (.cells #[.int .i64 f.k, .int .i64 f.vk, .int .i64 f.vn, .string f.vs, .int .i64 f.r1, .int .i64 f.r2, .int .i64 f.r3, .int .i64 f.r4, .string f.op, .slice A m c] 30)) w.heap.size f A m c := ⟨heap_alloc_new _ _⟩
  have eV : ∀ W, (binOp .eql 23 (.agg #[.int .i64 f.vk, .int .i64 f.vn, .string f.vs]) (.agg #[.int .i64 0, .int .i64 0, .string { data := #[] }])).run Tryz.prog W = .ok (.bool (noVB f)) W := fun W => ValueC.eqs _ _ _ _ _ _ W
  have eR : ∀ W, (binOp .eql 27 (.agg #[.int .i64 f.r1, .int .i64 f.r2, .int .i64 f.r3, .int .i64 f.r4]) (.agg #[.int .i64 0, .int .i64 0, .int .i64 0, .int .i64 0])).run Tryz.prog W = .ok (.bool (noRB f)) W := fun W => eq_rect _ _ _ _ _ _ _ _ W
  have eO : (f.op.toList == []) = noOB f := rfl
  generalize hD : fitsB f m = D
  have HD := Lib.hid hD.symm
  clear hD
  have HK := Lib.hid hk
  clear hk
  obtain ⟨d0, d1, d2, d3, d4, d5, d6, d7, d8, d9, -⟩ := L1.cells
  have b1 : (f.k == 1) = false := beq_eq_false_iff_ne.2 (by rw [HK.out]; decide)
  have b2 : (f.k == 2) = false := beq_eq_false_iff_ne.2 (by rw [HK.out]; decide)
  have b3 : (f.k == 3) = false := beq_eq_false_iff_ne.2 (by rw [HK.out]; decide)
  have b4 : (f.k == 4) = true := beq_iff_eq.2 HK.out
  have HE : Hid (D = (decide (m = 1) && noVB f && noRB f && noOB f)) := Lib.hid (HD.out.trans (by simp [fitsB, HK.out]))
  clear HD
  cases v1 : noRB f <;> cases v0 : noVB f
  · have HC := Lib.hid (And.intro True.intro True.intro)
    go_enter Tryz.func42, Tryz.ntmps42
    go_wp2_with fail
    go_ret
    exact ⟨by rw [HE.out]; simp [v0, v1], HB1.out⟩
  · have HC := Lib.hid (And.intro True.intro True.intro)
    go_enter Tryz.func42, Tryz.ntmps42
    go_wp2_with fail
    go_ret
    exact ⟨by rw [HE.out]; simp [v0, v1], HB1.out⟩
  · have HC := Lib.hid (And.intro True.intro True.intro)
    go_enter Tryz.func42, Tryz.ntmps42
    go_wp2_with fail
    go_ret
    exact ⟨by rw [HE.out]; simp [v0, v1], HB1.out⟩
  · have HC := Lib.hid (And.intro True.intro True.intro)
    have HK2 := HK
    by_cases hm0 : m = 1
    · have e0 : ((m : Int) == 1) = true := beq_iff_eq.2 (by omega)
      have hM := Lib.hid hm0
      clear hm0
      cases c2 : noOB f
      all_goals
        go_enter Tryz.func42, Tryz.ntmps42
        go_wp2_with fail
        go_ret
        exact ⟨by rw [HE.out]; simp [v0, v1, c2, hM.out], HB1.out⟩
    · have e0 : ((m : Int) == 1) = false := beq_eq_false_iff_ne.2 (by omega)
      have hM := Lib.hid hm0
      clear hm0
      cases c2 : noOB f
      all_goals
        go_enter Tryz.func42, Tryz.ntmps42
        go_wp2_with fail
        go_ret
        exact ⟨by rw [HE.out]; simp [v0, v1, c2, hM.out], HB1.out⟩
set_option maxRecDepth 100000 in
set_option maxHeartbeats 1000000 in
theorem rfits5 (f : Fld) (A : Option Addr) (m c : Nat) (w : World) (hm : m ≤ 1000000) (ho : f.op.size ≤ 1000000) (hk : f.k = 5) :
    Calls Tryz.prog 42 #[.agg #[.int .i64 f.k, .int .i64 f.vk, .int .i64 f.vn, .string f.vs, .int .i64 f.r1, .int .i64 f.r2, .int .i64 f.r3, .int .i64 f.r4, .string f.op, .slice A m c]] w fun e w' => e = .returned (.bool (fitsB f m)) ∧ Below w.heap.size w w' := by
  have HB1 : Hid (Below w.heap.size w (w.alloc (.cells #[.int .i64 f.k, .int .i64 f.vk, .int .i64 f.vn, .string f.vs, .int .i64 f.r1, .int .i64 f.r2, .int .i64 f.r3, .int .i64 f.r4, .string f.op, .slice A m c] 30))) := Lib.hid ((Below.refl _ _).alloc (Nat.le_refl _) _)
  have L1 : NLoc (w.alloc (.cells #[.int .i64 f.k, .int .i64 f.vk, .int .i64 f.vn, .string f.vs, .int .i64 f.r1, .int .i64 f.r2, .int .i64 f.r3, .int .i64 f.r4, .string f.op, .slice A m c] 30)) w.heap.size f A m c := ⟨heap_alloc_new _ _⟩
  have eV : ∀ W, (binOp .eql 23 (.agg #[.int .i64 f.vk, .int .i64 f.vn, .string f.vs]) (.agg #[.int .i64 0, .int .i64 0, .string { data := #[] }])).run Tryz.prog W = .ok (.bool (noVB f)) W := fun W => ValueC.eqs _ _ _ _ _ _ W
  have eR : ∀ W, (binOp .eql 27 (.agg #[.int .i64 f.r1, .int .i64 f.r2, .int .i64 f.r3, .int .i64 f.r4]) (.agg #[.int .i64 0, .int .i64 0, .int .i64 0, .int .i64 0])).run Tryz.prog W = .ok (.bool (noRB f)) W := fun W => eq_rect _ _ _ _ _ _ _ _ W
  have eO : (f.op.toList == []) = noOB f := rfl
  generalize hD : fitsB f m = D
  have HD := Lib.hid hD.symm
  clear hD
  have HK := Lib.hid hk
  clear hk
  obtain ⟨d0, d1, d2, d3, d4, d5, d6, d7, d8, d9, -⟩ := L1.cells
  have b1 : (f.k == 1) = false := beq_eq_false_iff_ne.2 (by rw [HK.out]; decide)
  have b2 : (f.k == 2) = false := beq_eq_false_iff_ne.2 (by rw [HK.out]; decide)
  have b3 : (f.k == 3) = false := beq_eq_false_iff_ne.2 (by rw [HK.out]; decide)
  have b4 : (f.k == 4) = false := beq_eq_false_iff_ne.2 (by rw [HK.out]; decide)
  have b5 : (f.k == 5) = true := beq_iff_eq.2 HK.out
  have HE : Hid (D = (binB f.op && decide (m = 2) && noVB f && noRB f)) := Lib.hid (HD.out.trans (by simp [fitsB, HK.out]))
  clear HD
  cases v1 : noRB f <;> cases v0 : noVB f
  · have HC := Lib.hid (And.intro True.intro True.intro)
    go_enter Tryz.func42, Tryz.ntmps42
    go_wp2_with fail
    go_ret
    exact ⟨by rw [HE.out]; simp [v0, v1], HB1.out⟩
  · have HC := Lib.hid (And.intro True.intro True.intro)
    go_enter Tryz.func42, Tryz.ntmps42
    go_wp2_with fail
    go_ret
    exact ⟨by rw [HE.out]; simp [v0, v1], HB1.out⟩
  · have HC := Lib.hid (And.intro True.intro True.intro)
    go_enter Tryz.func42, Tryz.ntmps42
    go_wp2_with fail
    go_ret
    exact ⟨by rw [HE.out]; simp [v0, v1], HB1.out⟩
  · have HC := Lib.hid (And.intro True.intro True.intro)
    go_enter Tryz.func42, Tryz.ntmps42
    go_wp2_with fail
    refine (rsignOp f.op _).mono ?_; rintro e w2 ⟨rfl, hb2⟩
    have L2 := L1.kept (Kept.of hb2) (Nat.ne_of_lt L1.lt)
    have HB2 := Lib.hid (HB1.out.trans (hb2.mono HB1.out.size))
    clear d0 d1 d2 d3 d4 d5 d6 d7 d8 d9 hb2 L1
    obtain ⟨d0, d1, d2, d3, d4, d5, d6, d7, d8, d9, -⟩ := L2.cells
    by_cases hm0 : m = 2
    · have e0 : ((m : Int) == 2) = true := beq_iff_eq.2 (by omega)
      have hM := Lib.hid hm0
      clear hm0
      cases c0 : binB f.op
      all_goals
        go_wp2_with fail
        go_ret
        exact ⟨by rw [HE.out]; simp [v0, v1, c0, hM.out], HB2.out⟩
    · have e0 : ((m : Int) == 2) = false := beq_eq_false_iff_ne.2 (by omega)
      have hM := Lib.hid hm0
      clear hm0
      cases c0 : binB f.op
      all_goals
        go_wp2_with fail
        go_ret
        exact ⟨by rw [HE.out]; simp [v0, v1, c0, hM.out], HB2.out⟩
theorem rword6 (s : ByteArray) (w : World) (hs : s.size ≤ 1000000) : Calls Tryz.prog 57 #[.string s] w fun e w' => e = .returned (.bool (fnB s)) ∧ Below w.heap.size w w' :=
  (rword s w hs).mono fun e w' ⟨h1, h2⟩ => ⟨by rw [h1, fn_word], by rw [h2]; exact Below.refl _ _⟩
set_option maxRecDepth 100000 in
set_option maxHeartbeats 1000000 in
theorem rfits6 (f : Fld) (A : Option Addr) (m c : Nat) (w : World) (hm : m ≤ 1000000) (ho : f.op.size ≤ 1000000) (hk : f.k = 6) :
    Calls Tryz.prog 42 #[.agg #[.int .i64 f.k, .int .i64 f.vk, .int .i64 f.vn, .string f.vs, .int .i64 f.r1, .int .i64 f.r2, .int .i64 f.r3, .int .i64 f.r4, .string f.op, .slice A m c]] w fun e w' => e = .returned (.bool (fitsB f m)) ∧ Below w.heap.size w w' := by
  have HB1 : Hid (Below w.heap.size w (w.alloc (.cells #[.int .i64 f.k, .int .i64 f.vk, .int .i64 f.vn, .string f.vs, .int .i64 f.r1, .int .i64 f.r2, .int .i64 f.r3, .int .i64 f.r4, .string f.op, .slice A m c] 30))) := Lib.hid ((Below.refl _ _).alloc (Nat.le_refl _) _)
  have L1 : NLoc (w.alloc (.cells #[.int .i64 f.k, .int .i64 f.vk, .int .i64 f.vn, .string f.vs, .int .i64 f.r1, .int .i64 f.r2, .int .i64 f.r3, .int .i64 f.r4, .string f.op, .slice A m c] 30)) w.heap.size f A m c := ⟨heap_alloc_new _ _⟩
  have eV : ∀ W, (binOp .eql 23 (.agg #[.int .i64 f.vk, .int .i64 f.vn, .string f.vs]) (.agg #[.int .i64 0, .int .i64 0, .string { data := #[] }])).run Tryz.prog W = .ok (.bool (noVB f)) W := fun W => ValueC.eqs _ _ _ _ _ _ W
  have eR : ∀ W, (binOp .eql 27 (.agg #[.int .i64 f.r1, .int .i64 f.r2, .int .i64 f.r3, .int .i64 f.r4]) (.agg #[.int .i64 0, .int .i64 0, .int .i64 0, .int .i64 0])).run Tryz.prog W = .ok (.bool (noRB f)) W := fun W => eq_rect _ _ _ _ _ _ _ _ W
  have eO : (f.op.toList == []) = noOB f := rfl
  generalize hD : fitsB f m = D
  have HD := Lib.hid hD.symm
  clear hD
  have HK := Lib.hid hk
  clear hk
  obtain ⟨d0, d1, d2, d3, d4, d5, d6, d7, d8, d9, -⟩ := L1.cells
  have b1 : (f.k == 1) = false := beq_eq_false_iff_ne.2 (by rw [HK.out]; decide)
  have b2 : (f.k == 2) = false := beq_eq_false_iff_ne.2 (by rw [HK.out]; decide)
  have b3 : (f.k == 3) = false := beq_eq_false_iff_ne.2 (by rw [HK.out]; decide)
  have b4 : (f.k == 4) = false := beq_eq_false_iff_ne.2 (by rw [HK.out]; decide)
  have b5 : (f.k == 5) = false := beq_eq_false_iff_ne.2 (by rw [HK.out]; decide)
  have b6 : (f.k == 6) = true := beq_iff_eq.2 HK.out
  have HE : Hid (D = (fnB f.op && decide (m ≤ 10) && noVB f && noRB f)) := Lib.hid (HD.out.trans (by simp [fitsB, HK.out]))
  clear HD
  cases v1 : noRB f <;> cases v0 : noVB f
  · have HC := Lib.hid (And.intro True.intro True.intro)
    go_enter Tryz.func42, Tryz.ntmps42
    go_wp2_with fail
    go_ret
    exact ⟨by rw [HE.out]; simp [v0, v1], HB1.out⟩
  · have HC := Lib.hid (And.intro True.intro True.intro)
    go_enter Tryz.func42, Tryz.ntmps42
    go_wp2_with fail
    go_ret
    exact ⟨by rw [HE.out]; simp [v0, v1], HB1.out⟩
  · have HC := Lib.hid (And.intro True.intro True.intro)
    go_enter Tryz.func42, Tryz.ntmps42
    go_wp2_with fail
    go_ret
    exact ⟨by rw [HE.out]; simp [v0, v1], HB1.out⟩
  · have HC := Lib.hid (And.intro True.intro True.intro)
    go_enter Tryz.func42, Tryz.ntmps42
    go_wp2_with fail
    refine (rword6 f.op _ ho).mono ?_; rintro e w2 ⟨rfl, hb2⟩
    have L2 := L1.kept (Kept.of hb2) (Nat.ne_of_lt L1.lt)
    have HB2 := Lib.hid (HB1.out.trans (hb2.mono HB1.out.size))
    clear d0 d1 d2 d3 d4 d5 d6 d7 d8 d9 hb2 L1
    obtain ⟨d0, d1, d2, d3, d4, d5, d6, d7, d8, d9, -⟩ := L2.cells
    by_cases hm0 : m ≤ 10
    · have e0 : decide ((m : Int) ≤ 10) = true := decide_eq_true (by omega)
      have hM := Lib.hid hm0
      clear hm0
      cases c0 : fnB f.op
      all_goals
        go_wp2_with fail
        go_ret
        exact ⟨by rw [HE.out]; simp [v0, v1, c0, hM.out], HB2.out⟩
    · have e0 : decide ((m : Int) ≤ 10) = false := decide_eq_false (by omega)
      have hM := Lib.hid hm0
      clear hm0
      cases c0 : fnB f.op
      all_goals
        go_wp2_with fail
        go_ret
        exact ⟨by rw [HE.out]; simp [v0, v1, c0, hM.out], HB2.out⟩
set_option maxRecDepth 100000 in
set_option maxHeartbeats 1000000 in
theorem rfits0 (f : Fld) (A : Option Addr) (m c : Nat) (w : World) (hm : m ≤ 1000000) (ho : f.op.size ≤ 1000000) (hk : f.k ≠ 1 ∧ f.k ≠ 2 ∧ f.k ≠ 3 ∧ f.k ≠ 4 ∧ f.k ≠ 5 ∧ f.k ≠ 6) :
    Calls Tryz.prog 42 #[.agg #[.int .i64 f.k, .int .i64 f.vk, .int .i64 f.vn, .string f.vs, .int .i64 f.r1, .int .i64 f.r2, .int .i64 f.r3, .int .i64 f.r4, .string f.op, .slice A m c]] w fun e w' => e = .returned (.bool (fitsB f m)) ∧ Below w.heap.size w w' := by
  have HB1 : Hid (Below w.heap.size w (w.alloc (.cells #[.int .i64 f.k, .int .i64 f.vk, .int .i64 f.vn, .string f.vs, .int .i64 f.r1, .int .i64 f.r2, .int .i64 f.r3, .int .i64 f.r4, .string f.op, .slice A m c] 30))) := Lib.hid ((Below.refl _ _).alloc (Nat.le_refl _) _)
  have L1 : NLoc (w.alloc (.cells #[.int .i64 f.k, .int .i64 f.vk, .int .i64 f.vn, .string f.vs, .int .i64 f.r1, .int .i64 f.r2, .int .i64 f.r3, .int .i64 f.r4, .string f.op, .slice A m c] 30)) w.heap.size f A m c := ⟨heap_alloc_new _ _⟩
  have eV : ∀ W, (binOp .eql 23 (.agg #[.int .i64 f.vk, .int .i64 f.vn, .string f.vs]) (.agg #[.int .i64 0, .int .i64 0, .string { data := #[] }])).run Tryz.prog W = .ok (.bool (noVB f)) W := fun W => ValueC.eqs _ _ _ _ _ _ W
  have eR : ∀ W, (binOp .eql 27 (.agg #[.int .i64 f.r1, .int .i64 f.r2, .int .i64 f.r3, .int .i64 f.r4]) (.agg #[.int .i64 0, .int .i64 0, .int .i64 0, .int .i64 0])).run Tryz.prog W = .ok (.bool (noRB f)) W := fun W => eq_rect _ _ _ _ _ _ _ _ W
  have eO : (f.op.toList == []) = noOB f := rfl
  generalize hD : fitsB f m = D
  have HD := Lib.hid hD.symm
  clear hD
  have HK := Lib.hid hk
  clear hk
  obtain ⟨d0, d1, d2, d3, d4, d5, d6, d7, d8, d9, -⟩ := L1.cells
  have b1 : (f.k == 1) = false := beq_eq_false_iff_ne.2 HK.out.1
  have b2 : (f.k == 2) = false := beq_eq_false_iff_ne.2 HK.out.2.1
  have b3 : (f.k == 3) = false := beq_eq_false_iff_ne.2 HK.out.2.2.1
  have b4 : (f.k == 4) = false := beq_eq_false_iff_ne.2 HK.out.2.2.2.1
  have b5 : (f.k == 5) = false := beq_eq_false_iff_ne.2 HK.out.2.2.2.2.1
  have b6 : (f.k == 6) = false := beq_eq_false_iff_ne.2 HK.out.2.2.2.2.2
  have HE : Hid (D = false) := Lib.hid (HD.out.trans (by simp [fitsB, HK.out.1, HK.out.2.1, HK.out.2.2.1, HK.out.2.2.2.1, HK.out.2.2.2.2.1, HK.out.2.2.2.2.2]))
  clear HD
  go_enter Tryz.func42, Tryz.ntmps42
  go_wp2_with fail
  go_ret
  exact ⟨by rw [HE.out]; rfl, HB1.out⟩
theorem rfits (f : Fld) (A : Option Addr) (m c : Nat) (w : World) (hm : m ≤ 1000000) (ho : f.op.size ≤ 1000000) :
    Calls Tryz.prog 42 #[.agg #[.int .i64 f.k, .int .i64 f.vk, .int .i64 f.vn, .string f.vs, .int .i64 f.r1, .int .i64 f.r2, .int .i64 f.r3, .int .i64 f.r4, .string f.op, .slice A m c]] w fun e w' => e = .returned (.bool (fitsB f m)) ∧ Below w.heap.size w w' := by
  by_cases h1 : f.k = 1
  · exact rfits1 f A m c w hm ho h1
  by_cases h2 : f.k = 2
  · exact rfits2 f A m c w hm ho h2
  by_cases h3 : f.k = 3
  · exact rfits3 f A m c w hm ho h3
  by_cases h4 : f.k = 4
  · exact rfits4 f A m c w hm ho h4
  by_cases h5 : f.k = 5
  · exact rfits5 f A m c w hm ho h5
  by_cases h6 : f.k = 6
  · exact rfits6 f A m c w hm ho h6
  exact rfits0 f A m c w hm ho ⟨h1, h2, h3, h4, h5, h6⟩
end Go.Proofs.YtccigjelbnjcoaaGreatDoor.TreeC
namespace Go.Proofs.YtccigjelbnjcoaaGreatDoor.TreeC
set_option linter.unusedVariables false
open Go.RowKit Go.Proofs.YtccigjelbnjcoaaGreatDoor.NumC Go.Proofs.YtccigjelbnjcoaaGreatDoor.LexC
theorem Fo.all_app (p : Fld → Nat → Bool) (x y : Fo) : (x.app y).all p = (x.all p && y.all p) := by
  induction x with
  | nil => simp [Fo.app, Fo.all]
  | cons f k n _ ih => simp only [Fo.app, Fo.all, ih, Bool.and_assoc]
theorem Fo.all_step (p : Fld → Nat → Bool) (q : Fo) (k : Nat) (h : k < q.len) : (q.drop k).all p = (p (q.nth k).f (q.nth k).kids.len && ((q.app (q.nth k).kids).drop (k + 1)).all p) := by
  rw [Fo.queue q k h, Fo.all_app, Fo.all_drop p q k h]
  unfold Nd.all
  cases (q.nth k).kids.all p <;> cases p (q.nth k).f (q.nth k).kids.len <;> cases (q.drop (k + 1)).all p <;> rfl
theorem Fo.short_node (q : Fo) (k : Nat) (h : k < q.len) (hs : (q.drop k).Short) : (q.nth k).f.op.size ≤ 1000000 ∧ ((q.app (q.nth k).kids).drop (k + 1)).Short := by
  rw [Fo.drop_nth q k h] at hs
  refine ⟨Nat.le_trans hs.1.2 (by decide), ?_⟩
  rw [Fo.queue q k h, Fo.short_app]
  exact ⟨hs.2.2, hs.2.1⟩
def GdIn (a : Nd) (w wr : World) (k : Nat) (v : Value) : Prop := ∃ q : Fo, k ≤ q.len ∧ QS wr w.heap.size v q ∧ Below w.heap.size w wr ∧ k + (q.drop k).size = a.size ∧ (q.drop k).Short ∧ (q.drop k).all fitsB = a.all fitsB
set_option maxRecDepth 100000 in
set_option maxHeartbeats 2000000 in
theorem rGood (a : Nd) (A : Option Addr) (c : Nat) (w : World) (hs : a.size ≤ 2000) (hsh : a.one.Short) (hK : KidsAt w (fun g => g < w.heap.size) a.kids A) : Calls Tryz.prog 20 #[.agg #[.int .i64 a.f.k, .int .i64 a.f.vk, .int .i64 a.f.vn, .string a.f.vs, .int .i64 a.f.r1, .int .i64 a.f.r2, .int .i64 a.f.r3, .int .i64 a.f.r4, .string a.f.op, .slice A a.kids.len c]] w fun e w' => e = .returned (.bool (goodT fitsB a)) ∧ Below w.heap.size w w' := by
  have b1 : Below w.heap.size w (w.alloc (.cells #[.int .i64 a.f.k, .int .i64 a.f.vk, .int .i64 a.f.vn, .string a.f.vs, .int .i64 a.f.r1, .int .i64 a.f.r2, .int .i64 a.f.r3, .int .i64 a.f.r4, .string a.f.op, .slice A a.kids.len c] 30)) := (Below.refl _ _).alloc (Nat.le_refl _) _
  have L1 : NLoc (w.alloc (.cells #[.int .i64 a.f.k, .int .i64 a.f.vk, .int .i64 a.f.vn, .string a.f.vs, .int .i64 a.f.r1, .int .i64 a.f.r2, .int .i64 a.f.r3, .int .i64 a.f.r4, .string a.f.op, .slice A a.kids.len c] 30)) w.heap.size a.f A a.kids.len c := ⟨heap_alloc_new _ _⟩
  have HK1 := Lib.hid (below_row hK b1)
  have HK := Lib.hid hK
  have HSH := Lib.hid hsh
  have HS := Lib.hid hs
  have hdd : a.deep ≤ a.size := by have := Fo.deep_size a.kids; unfold Nd.deep Nd.size; omega
  have hd1 : 1 ≤ a.deep := by unfold Nd.deep; omega
  generalize hG : goodT fitsB a = G
  have HG : Hid (G = (decide (a.deep ≤ 16) && a.all fitsB)) := Lib.hid (by rw [← hG]; unfold goodT; rw [decide_eq_true hs, Bool.true_and])
  clear hK hsh hG
  obtain ⟨d0, d1, d2, d3, d4, d5, d6, d7, d8, d9, -⟩ := L1.cells
  go_enter Tryz.func20, Tryz.ntmps20
  go_wp2_with fail
  generalize (w.alloc (.cells #[.int .i64 a.f.k, .int .i64 a.f.vk, .int .i64 a.f.vn, .string a.f.vs, .int .i64 a.f.r1, .int .i64 a.f.r2, .int .i64 a.f.r3, .int .i64 a.f.r4, .string a.f.op, .slice A a.kids.len c] 30)) = W1 at *
  refine (rDepth a A c W1 HK1.out).mono ?_; rintro e w2 ⟨rfl, hb2⟩
  rw [if_pos HS.out]
  have B2 : Below w.heap.size w w2 := b1.trans (hb2.mono b1.size)
  have L2 := L1.kept (Kept.of (x := W1.heap.size) hb2) (Nat.ne_of_lt L1.lt)
  clear L1 b1 HK1 d0 d1 d2 d3 d4 d5 d6 d7 d8 d9
  have t0 : ¬ ((a.deep : Int) < 1) := by omega
  obtain ⟨d0, d1, d2, d3, d4, d5, d6, d7, d8, d9, -⟩ := L2.cells
  have HB2 := Lib.hid B2
  by_cases h16 : a.deep ≤ 16
  · have t1 : ¬ (16 : Int) < (a.deep : Int) := by omega
    have HG2 : Hid (G = a.all fitsB) := Lib.hid (by rw [HG.out, decide_eq_true h16, Bool.true_and])
    have b3 : Below w.heap.size w (w2.alloc (.cells #[.int .i64 a.f.k, .int .i64 a.f.vk, .int .i64 a.f.vn, .string a.f.vs, .int .i64 a.f.r1, .int .i64 a.f.r2, .int .i64 a.f.r3, .int .i64 a.f.r4, .string a.f.op, .slice A a.kids.len c] 30)) := B2.alloc B2.size _
    have HQ : Hid (GdIn a w (w2.alloc (.cells #[.int .i64 a.f.k, .int .i64 a.f.vk, .int .i64 a.f.vn, .string a.f.vs, .int .i64 a.f.r1, .int .i64 a.f.r2, .int .i64 a.f.r3, .int .i64 a.f.r4, .string a.f.op, .slice A a.kids.len c] 30)) 0 (.slice (some ⟨w2.heap.size, 0, none⟩) 1 1)) := Lib.hid ⟨a.one, Nat.zero_le _, QS.one (f := a.f) (kd := a.kids) (c := c) (heap_alloc_new _ _) B2.size rfl (kids_below HK.out b3 (Nat.le_refl _)), b3, by rw [Nat.zero_add, Fo.drop_zero, Nd.one_size], by rw [Fo.drop_zero]; exact HSH.out, by rw [Fo.drop_zero]; simp [Nd.one, Fo.all, Nd.all]⟩
    clear hb2 B2 b3 L2 HG hdd hd1 h16
    go_wp2_with fail
    go_loopw [4, 5] (fun v iv wr => ∃ k : Nat, k ≤ 2000 ∧ iv = .int .i64 k ∧ Hid (GdIn a w wr k v)) (fun _ iv _ => 2000 - (intOf iv).toNat)
    case atStart => exact ⟨0, by omega, rfl, HQ⟩
    case round =>
      clear HQ HB2 d0 d1 d2 d3 d4 d5 d6 d7 d8 d9
      obtain ⟨k, hk, rfl, HR⟩ := hrel
      obtain ⟨q, hkq, hQ, hB, hsz, hsr, hal⟩ := HR.out
      clear HR
      have hql : q.len ≤ 2000 := by
        have h1 := Fo.len_size (q.drop k)
        rw [Fo.len_drop] at h1
        omega
      by_cases hlt : k < q.len
      · obtain ⟨g, c9, A2, c2, rfl, hg0, hg1, hkid, f0, f1, f2, f3, f4, f5, f6, f7, f8, f9⟩ := hQ.nth k hlt
        have hd1 : (k : Int) < (q.len : Int) := by omega
        obtain ⟨hop, hsn⟩ := Fo.short_node q k hlt hsr
        have hnl : q.len + (q.nth k).kids.len ≤ 1000000 := by
          have h1 := Fo.size_drop q k hlt
          have h2 := Fo.len_size (q.nth k).kids
          omega
        have HST := Lib.hid (show k + (q.drop k).size = a.size from hsz)
        have HSN := Lib.hid hsn
        have HAL : Hid (a.all fitsB = (fitsB (q.nth k).f (q.nth k).kids.len && ((q.app (q.nth k).kids).drop (k + 1)).all fitsB)) := Lib.hid (by rw [← hal, Fo.all_step fitsB q k hlt])
        have HQ := Lib.hid hQ
        have HB := Lib.hid hB
        clear hsz hsr hal hsn hQ hkid hB
        go_wp2_with fail
        refine (rfits (q.nth k).f A2 (q.nth k).kids.len c2 _ (by omega) hop).mono ?_; rintro e w4 ⟨rfl, hb4⟩
        clear f0 f1 f2 f3 f4 f5 f6 f7 f8 f9
        have hQ4 := HQ.out.below hb4
        have hB4 := HB.out.trans (hb4.mono HB.out.size)
        clear hb4 HQ HB
        obtain ⟨g4, c4, A4, e4, he, hg4, hg5, hkid, f0, f1, f2, f3, f4, f5, f6, f7, f8, f9⟩ := hQ4.nth k hlt
        injection he with he1 he2 he3
        injection he1 with he1
        injection he1 with he1
        subst he1 he3
        clear he2
        have HN := Lib.hid hQ4
        have HKD := Lib.hid hkid
        have hBs := hB4.size
        have HB4 := Lib.hid hB4
        clear hQ4 hkid hB4
        cases hf : fitsB (q.nth k).f (q.nth k).kids.len
        · have HE : Hid (G = false) := Lib.hid (by rw [HG2.out, HAL.out, hf, Bool.false_and])
          go_wp2_with fail
          go_ret
          exact ⟨ret1 HE.out.symm, HB4.out⟩
        · have HA2 : Hid (((q.app (q.nth k).kids).drop (k + 1)).all fitsB = a.all fitsB) := Lib.hid (by rw [HAL.out, hf, Bool.true_and])
          go_wp2_with (at_builtin
                       refine wpList_append_queue _ rfl (.tmp 28) (.tmp 33) rfl (B := w.heap.size) (c := e4) (fo := q) (kd := (q.nth k).kids) (A := A4) rfl rfl HN.out HKD.out hnl hBs ?_
                       intro v9 w9 hq9 hg9 hat9
                       have HD9 : Hid (GdIn a w w9 (k + 1) v9) := Lib.hid ⟨_, by rw [Fo.len_app]; omega, hq9, below_grown HB4.out hBs hg9 (fun k hk => (HN.out.lt k hk).1), Fo.queue_size q k a.size hlt HST.out, HSN.out, HA2.out⟩
                       clear hq9 hg9 hat9)
          go_roundw
          case rel => exact ⟨k + 1, by omega, by go_num, HD9⟩
          case measure => simp [intOf]; omega
      · have hd1 : ¬ (k : Int) < (q.len : Int) := by omega
        obtain ⟨NA, nc, rfl⟩ := hQ.form
        have HB := Lib.hid hB
        have HE : Hid (G = true) := Lib.hid (by rw [HG2.out, ← hal, Fo.drop_len q k (by omega)]; rfl)
        clear hQ hB hsz hsr hal
        go_wp2_with fail
        go_ret
        exact ⟨ret1 HE.out.symm, HB.out⟩
  · have t1 : (16 : Int) < (a.deep : Int) := by omega
    have HE : Hid (G = false) := Lib.hid (by rw [HG.out, decide_eq_false h16, Bool.false_and])
    clear hb2 B2 L2
    go_wp2_with fail
    go_ret
    exact ⟨ret1 HE.out.symm, HB2.out⟩
end Go.Proofs.YtccigjelbnjcoaaGreatDoor.TreeC
namespace Go.Proofs.YtccigjelbnjcoaaGreatDoor.RefsC
set_option linter.unusedVariables false
open Go.RowKit Go.Proofs.YtccigjelbnjcoaaGreatDoor.NumC
open Go.Proofs.YtccigjelbnjcoaaGreatDoor.TreeC (eq_rect)
theorem neq_rc (x y : Rc) (W : World) : (binOp .neq 27 (.agg #[.int .i64 x.a, .int .i64 x.b, .int .i64 x.c, .int .i64 x.d]) (.agg #[.int .i64 y.a, .int .i64 y.b, .int .i64 y.c, .int .i64 y.d])).run Tryz.prog W = .ok (.bool (!decide (x = y))) W := by
  have h := eq_rect x.a x.b x.c x.d y.a y.b y.c y.d W
  have e : decide (x.a = y.a ∧ x.b = y.b ∧ x.c = y.c ∧ x.d = y.d) = decide (x = y) := by
    rw [decide_eq_decide]
    constructor
    · obtain ⟨a, b, c, d⟩ := x; obtain ⟨a', b', c', d'⟩ := y
      rintro ⟨h1, h2, h3, h4⟩
      simp only at h1 h2 h3 h4
      rw [h1, h2, h3, h4]
    · rintro rfl; exact ⟨rfl, rfl, rfl, rfl⟩
  rw [e, run_eql_struct] at h
  rw [run_neq_struct]
  cases hr : (Op.equalIn 10000 27 (.agg #[.int .i64 x.a, .int .i64 x.b, .int .i64 x.c, .int .i64 x.d]) (.agg #[.int .i64 y.a, .int .i64 y.b, .int .i64 y.c, .int .i64 y.d])).run Tryz.prog W with
  | ok v w' =>
    rw [hr] at h
    simp only [Result.andThen, Result.ok.injEq, Value.bool.injEq] at h ⊢
    obtain ⟨h1, h2⟩ := h
    rw [h1]; simp [h2]
  | halt e w' => rw [hr] at h; cases h
theorem take_ne {l m : List Rc} {k : Nat} {x y : Rc} (hx : l[k]? = some x) (hy : m[k]? = some y) (h : x ≠ y) : l ≠ m := by
  rintro rfl; rw [hx] at hy; exact h (Option.some.inj hy)
set_option maxHeartbeats 1000000 in
set_option maxRecDepth 100000 in
theorem cEqual (l m : List Rc) (A C : Option Addr) (c d : Nat) (w : World) (hl : l.length ≤ 1000000) (hm : m.length ≤ 1000000) (hR : RAt w w.heap.size l A) (hS : RAt w w.heap.size m C) :
    Calls Tryz.prog 37 #[.slice A l.length c, .slice C m.length d] w fun e w' => e = .returned (.bool (decide (l = m))) ∧ Below w.heap.size w w' := by
  have HR := Lib.hid hR
  have HS := Lib.hid hS
  clear hR hS
  by_cases hlen : l.length = m.length
  · have hd0 : ((l.length : Int) != (m.length : Int)) = false := by simp [hlen]
    have HLEN := Lib.hid hlen
    go_enter Tryz.func37, Tryz.ntmps37
    go_wp2_with fail
    clear hd0
    go_loopw [13] (fun iv wr => ∃ k : Nat, k ≤ l.length ∧ iv = .int .i64 k ∧ Hid (Below w.heap.size w wr ∧ l.take k = m.take k)) (fun iv _ => l.length - (intOf iv).toNat)
    case atStart => exact ⟨0, Nat.zero_le _, rfl, Lib.hid ⟨Below.refl _ _, rfl⟩⟩
    case round =>
      obtain ⟨k, hk, rfl, HR2⟩ := hrel
      obtain ⟨hb, hn⟩ := HR2.out
      by_cases hlt : k < l.length
      · have hd1 : (k : Int) < (l.length : Int) := by omega
        have hd3 : (k : Int) < (m.length : Int) := by omega
        obtain ⟨x, hx⟩ := nth_some l k hlt
        obtain ⟨y, hy⟩ := nth_some m k (by omega)
        obtain ⟨g0, o, rfl, hg0, c0, c1, c2, c3⟩ := (HR.out.below hb).nth k x hx
        obtain ⟨g1, o1, rfl, hg1, d0, d1, d2, d3⟩ := (HS.out.below hb).nth k y hy
        have HB := Lib.hid hb
        have HN := Lib.hid hn
        have HX := Lib.hid hx
        have HY := Lib.hid hy
        have eN := neq_rc x y
        clear hb hn hx hy hlen
        cases hxy : decide (x = y)
        · have HXY := Lib.hid (of_decide_eq_false hxy)
          rw [hxy] at eN
          clear hxy
          go_wp2_with fail
          go_quiet (fail)
          go_wp2_with fail
          go_ret
          exact ⟨ret1 (decide_eq_false (take_ne HX.out HY.out HXY.out)).symm, below_drewN' HB.out _⟩
        · have HXY := Lib.hid (of_decide_eq_true hxy)
          rw [hxy] at eN
          clear hxy
          go_wp2_with fail
          go_quiet (fail)
          go_wp2_with fail
          go_roundw
          case rel => exact ⟨k + 1, by omega, by go_num, Lib.hid ⟨below_drewN' HB.out _, by rw [List.take_add_one, List.take_add_one, HN.out, HX.out, HY.out, HXY.out]⟩⟩
          case measure => simp [intOf]; omega
      · have hd1 : ¬ (k : Int) < (l.length : Int) := by omega
        obtain rfl : k = l.length := by omega
        rw [List.take_length, hlen, List.take_length] at hn
        have HN := Lib.hid hn
        have HB := Lib.hid hb
        have hd3 : ¬ l.length < m.length := by omega
        clear hn hb hlen
        go_wp2_with fail
        go_ret
        exact ⟨ret1 (decide_eq_true HN.out).symm, HB.out⟩
  · have hd0 : ((l.length : Int) != (m.length : Int)) = true := by simp; omega
    have HLEN : Hid (decide (l = m) = false) := Lib.hid (decide_eq_false fun e => hlen (by rw [e]))
    clear hlen
    go_enter Tryz.func37, Tryz.ntmps37
    go_wp2_with fail
    go_ret
    exact ⟨ret1 HLEN.out.symm, Below.refl _ _⟩
set_option maxHeartbeats 1000000 in
set_option maxRecDepth 100000 in
theorem kRects (l m : List Rc) (A C : Option Addr) (c d : Nat) (w : World) (hl : l.length ≤ 1000000) (hm : m.length ≤ 1000000) (hR : RAt w w.heap.size l A) (hS : RAt w w.heap.size m C) :
    Calls Tryz.prog 9 #[.slice A l.length c, .slice C m.length d] w fun e w' => e = .returned (.bool (decide (l = m))) ∧ Below w.heap.size w w' := by
  have HR := Lib.hid hR
  have HS := Lib.hid hS
  clear hR hS
  by_cases hlen : l.length = m.length
  · have hd0 : ((l.length : Int) != (m.length : Int)) = false := by simp [hlen]
    have HLEN := Lib.hid hlen
    go_enter Tryz.func9, Tryz.ntmps9
    go_wp2_with fail
    clear hd0
    go_loopw [5] (fun iv wr => ∃ k : Nat, k ≤ l.length ∧ iv = .int .i64 k ∧ Hid (Below w.heap.size w wr ∧ l.take k = m.take k)) (fun iv _ => l.length - (intOf iv).toNat)
    case atStart => exact ⟨0, Nat.zero_le _, rfl, Lib.hid ⟨Below.refl _ _, rfl⟩⟩
    case round =>
      obtain ⟨k, hk, rfl, HR2⟩ := hrel
      obtain ⟨hb, hn⟩ := HR2.out
      by_cases hlt : k < l.length
      · have hd1 : (k : Int) < (l.length : Int) := by omega
        have hd3 : (k : Int) < (m.length : Int) := by omega
        obtain ⟨x, hx⟩ := nth_some l k hlt
        obtain ⟨y, hy⟩ := nth_some m k (by omega)
        obtain ⟨g0, o, rfl, hg0, c0, c1, c2, c3⟩ := (HR.out.below hb).nth k x hx
        obtain ⟨g1, o1, rfl, hg1, d0, d1, d2, d3⟩ := (HS.out.below hb).nth k y hy
        have HB := Lib.hid hb
        have HN := Lib.hid hn
        have HX := Lib.hid hx
        have HY := Lib.hid hy
        have eN := neq_rc x y
        clear hb hn hx hy hlen
        cases hxy : decide (x = y)
        · have HXY := Lib.hid (of_decide_eq_false hxy)
          rw [hxy] at eN
          clear hxy
          go_wp2_with fail
          go_quiet (fail)
          go_wp2_with fail
          go_ret
          exact ⟨ret1 (decide_eq_false (take_ne HX.out HY.out HXY.out)).symm, below_drewN' HB.out _⟩
        · have HXY := Lib.hid (of_decide_eq_true hxy)
          rw [hxy] at eN
          clear hxy
          go_wp2_with fail
          go_quiet (fail)
          go_wp2_with fail
          go_roundw
          case rel => exact ⟨k + 1, by omega, by go_num, Lib.hid ⟨below_drewN' HB.out _, by rw [List.take_add_one, List.take_add_one, HN.out, HX.out, HY.out, HXY.out]⟩⟩
          case measure => simp [intOf]; omega
      · have hd1 : ¬ (k : Int) < (l.length : Int) := by omega
        obtain rfl : k = l.length := by omega
        rw [List.take_length, hlen, List.take_length] at hn
        have HN := Lib.hid hn
        have HB := Lib.hid hb
        have hd3 : ¬ l.length < m.length := by omega
        clear hn hb hlen
        go_wp2_with fail
        go_ret
        exact ⟨ret1 (decide_eq_true HN.out).symm, HB.out⟩
  · have hd0 : ((l.length : Int) != (m.length : Int)) = true := by simp; omega
    have HLEN : Hid (decide (l = m) = false) := Lib.hid (decide_eq_false fun e => hlen (by rw [e]))
    clear hlen
    go_enter Tryz.func9, Tryz.ntmps9
    go_wp2_with fail
    go_ret
    exact ⟨ret1 HLEN.out.symm, Below.refl _ _⟩
end Go.Proofs.YtccigjelbnjcoaaGreatDoor.RefsC
namespace Go.Proofs.YtccigjelbnjcoaaGreatDoor.PrintC
set_option linter.unusedVariables false
open Go.Proofs.YtccigjelbnjcoaaGreatDoor.NumC Go.Proofs.YtccigjelbnjcoaaGreatDoor.LexC Go.Proofs.YtccigjelbnjcoaaGreatDoor.TreeC
structure TRes where
  s : List UInt8
  err : Int
def goodN (a : Nd) : Bool := goodT fitsB a
def textR (a : Nd) : TRes := if goodN a = false then ⟨[], 11⟩ else if 300 < (textN a).length then ⟨[], 2⟩ else ⟨textN a, 0⟩
end Go.Proofs.YtccigjelbnjcoaaGreatDoor.PrintC
