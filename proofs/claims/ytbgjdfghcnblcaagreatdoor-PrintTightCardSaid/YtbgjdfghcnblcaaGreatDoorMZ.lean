/-
  Contracts of tree's code: isConst, isBinary, isName.
-/
import Derived.Test.YtbgjdfghcnblcaaGreatDoorMV
import Derived.Test.YtbgjdfghcnblcaaGreatDoorMY
import Derived.Test.YtbgjdfghcnblcaaGreatDoorMVal
import Derived.Test.YtbgjdfghcnblcaaGreatDoorMAddr
namespace Go.Proofs.YtbgjdfghcnblcaaGreatDoor.TreeC
set_option linter.unusedVariables false
open Go.RowKit Go.Proofs.YtbgjdfghcnblcaaGreatDoor.NumC Go.Proofs.YtbgjdfghcnblcaaGreatDoor.LexC

/-- May a value stand in a formula? -/
def constB (k n : Int) (s : ByteArray) : Bool := if k = 2 then ValueC.goodB ⟨k, n, s⟩ && decide (0 ≤ n) else if k = 3 ∨ k = 1 then ValueC.goodB ⟨k, n, s⟩ else false
set_option maxRecDepth 100000 in
set_option maxHeartbeats 1000000 in
theorem cisConst (k n : Int) (s : ByteArray) (w : World) : Calls Tryz.prog 85 #[.agg #[.int .i64 k, .int .i64 n, .string s]] w fun e w' => e = .returned (.bool (constB k n s)) ∧ Below w.heap.size w w' := by
  have hb1 : Below w.heap.size w (w.alloc (.cells #[.int .i64 k, .int .i64 n, .string s] 23)) := (Below.refl _ _).alloc (Nat.le_refl _) _
  have HG := ValueC.good ⟨k, n, s⟩ (w.alloc (.cells #[.int .i64 k, .int .i64 n, .string s] 23))
  have hq : (w.alloc (.cells #[.int .i64 k, .int .i64 n, .string s] 23)).cell? ⟨w.heap.size, 1, none⟩ = some (.int .i64 n) := by simp
  have HC := Lib.hid (And.intro hb1 (And.intro HG hq))
  clear hb1 HG hq
  by_cases h2 : k = 2
  · have E : Hid (constB k n s = (ValueC.goodB ⟨k, n, s⟩ && decide (0 ≤ n))) := Lib.hid (if_pos h2)
    have b2 : (k == 2) = true := beq_iff_eq.2 h2
    clear h2
    go_enter Tryz.func85, Tryz.ntmps85
    go_wp2_with fail
    generalize (w.alloc (.cells #[.int .i64 k, .int .i64 n, .string s] 23)) = W1 at *
    refine HC.out.2.1.mono ?_; rintro e w2 ⟨rfl, hb2⟩
    have q2 := cell_later hb2 HC.out.2.2
    have hB := HC.out.1.trans (hb2.mono HC.out.1.size)
    cases hg : ValueC.goodB ⟨k, n, s⟩ with
    | false =>
      rw [hg] at E
      go_wp2_with fail
      go_ret
      exact ⟨by rw [E.out]; rfl, hB⟩
    | true =>
      rw [hg] at E
      go_wp2_with fail
      go_ret
      exact ⟨by rw [E.out]; simp, hB⟩
  · have b2 : (k == 2) = false := beq_eq_false_iff_ne.2 h2
    by_cases h3 : k = 3
    · have E : Hid (constB k n s = ValueC.goodB ⟨k, n, s⟩) := Lib.hid ((if_neg h2).trans (if_pos (Or.inl h3)))
      have b3 : (k == 3) = true := beq_iff_eq.2 h3
      clear h2 h3
      go_enter Tryz.func85, Tryz.ntmps85
      go_wp2_with fail
      generalize (w.alloc (.cells #[.int .i64 k, .int .i64 n, .string s] 23)) = W1 at *
      refine HC.out.2.1.mono ?_; rintro e w2 ⟨rfl, hb2⟩
      have hB := HC.out.1.trans (hb2.mono HC.out.1.size)
      go_wp2_with fail
      go_ret
      exact ⟨by rw [E.out]; rfl, hB⟩
    · have b3 : (k == 3) = false := beq_eq_false_iff_ne.2 h3
      by_cases h1 : k = 1
      · have E : Hid (constB k n s = ValueC.goodB ⟨k, n, s⟩) := Lib.hid ((if_neg h2).trans (if_pos (Or.inr h1)))
        have b1 : (k == 1) = true := beq_iff_eq.2 h1
        clear h2 h3 h1
        go_enter Tryz.func85, Tryz.ntmps85
        go_wp2_with fail
        generalize (w.alloc (.cells #[.int .i64 k, .int .i64 n, .string s] 23)) = W1 at *
        refine HC.out.2.1.mono ?_; rintro e w2 ⟨rfl, hb2⟩
        have hB := HC.out.1.trans (hb2.mono HC.out.1.size)
        go_wp2_with fail
        go_ret
        exact ⟨by rw [E.out]; rfl, hB⟩
      · have E : Hid (constB k n s = false) := Lib.hid ((if_neg h2).trans (if_neg (fun h => h.elim h3 h1)))
        have b1 : (k == 1) = false := beq_eq_false_iff_ne.2 h1
        clear h2 h3 h1
        go_enter Tryz.func85, Tryz.ntmps85
        go_wp2_with fail
        go_ret
        exact ⟨by rw [E.out]; rfl, HC.out.1⟩

def binB (s : ByteArray) : Bool := anyOf cmpS s || anyOf sumS s || anyOf mulS s || anyOf powS s
set_option maxRecDepth 100000 in
set_option maxHeartbeats 1000000 in
theorem cisBinary (s : ByteArray) (w : World) : Calls Tryz.prog 87 #[.string s] w fun e w' => e = .returned (.bool (binB s)) ∧ Below w.heap.size w w' := by
  cases h0 : anyOf cmpS s with
  | true =>
    go_enter Tryz.func87, Tryz.ntmps87
    go_wp2_with fail
    refine (cisComparing s _).mono ?_; rw [h0]; rintro e w1 ⟨rfl, q0, rfl⟩
    go_wp2_with fail
    go_ret
    exact ⟨by rw [show binB s = true by simp [binB, h0]]; rfl, below_drewN' (Below.refl _ _) _⟩
  | false =>
    cases h1 : anyOf sumS s with
    | true =>
      go_enter Tryz.func87, Tryz.ntmps87
      go_wp2_with fail
      refine (cisComparing s _).mono ?_; rw [h0]; rintro e w1 ⟨rfl, q0, rfl⟩
      go_wp2_with fail
      refine (cisAdding s _).mono ?_; rw [h1]; rintro e w2 ⟨rfl, q1, rfl⟩
      go_wp2_with fail
      go_ret
      exact ⟨by rw [show binB s = true by simp [binB, h0, h1]]; rfl, below_drewN' (Below.refl _ _) _⟩
    | false =>
      cases h2 : anyOf mulS s with
      | true =>
        go_enter Tryz.func87, Tryz.ntmps87
        go_wp2_with fail
        refine (cisComparing s _).mono ?_; rw [h0]; rintro e w1 ⟨rfl, q0, rfl⟩
        go_wp2_with fail
        refine (cisAdding s _).mono ?_; rw [h1]; rintro e w2 ⟨rfl, q1, rfl⟩
        go_wp2_with fail
        refine (cisMultiplying s _).mono ?_; rw [h2]; rintro e w3 ⟨rfl, q2, rfl⟩
        go_wp2_with fail
        go_ret
        exact ⟨by rw [show binB s = true by simp [binB, h0, h1, h2]]; rfl, below_drewN' (Below.refl _ _) _⟩
      | false =>
        cases h3 : anyOf powS s with
        | true =>
          go_enter Tryz.func87, Tryz.ntmps87
          go_wp2_with fail
          refine (cisComparing s _).mono ?_; rw [h0]; rintro e w1 ⟨rfl, q0, rfl⟩
          go_wp2_with fail
          refine (cisAdding s _).mono ?_; rw [h1]; rintro e w2 ⟨rfl, q1, rfl⟩
          go_wp2_with fail
          refine (cisMultiplying s _).mono ?_; rw [h2]; rintro e w3 ⟨rfl, q2, rfl⟩
          go_wp2_with fail
          refine (cisPower s _).mono ?_; rw [h3]; rintro e w4 ⟨rfl, q3, rfl⟩
          go_wp2_with fail
          go_ret
          exact ⟨by rw [show binB s = true by simp [binB, h0, h1, h2, h3]]; rfl, below_drewN' (Below.refl _ _) _⟩
        | false =>
          go_enter Tryz.func87, Tryz.ntmps87
          go_wp2_with fail
          refine (cisComparing s _).mono ?_; rw [h0]; rintro e w1 ⟨rfl, q0, rfl⟩
          go_wp2_with fail
          refine (cisAdding s _).mono ?_; rw [h1]; rintro e w2 ⟨rfl, q1, rfl⟩
          go_wp2_with fail
          refine (cisMultiplying s _).mono ?_; rw [h2]; rintro e w3 ⟨rfl, q2, rfl⟩
          go_wp2_with fail
          refine (cisPower s _).mono ?_; rw [h3]; rintro e w4 ⟨rfl, q3, rfl⟩
          go_wp2_with fail
          go_ret
          exact ⟨by rw [show binB s = false by simp [binB, h0, h1, h2, h3]]; rfl, below_drewN' (Below.refl _ _) _⟩

/-- May a text be a function's name? -/
def fnB (s : ByteArray) : Bool := decide (s.size ≤ 8) && match (cutL s.data.toList).toks with
  | [t] => decide (t.k = 3) && decide (t.s = s)
  | _ => false
set_option maxRecDepth 100000 in
set_option maxHeartbeats 1000000 in
theorem cisName (s : ByteArray) (w : World) (hl : LexLib w) : Calls Tryz.prog 88 #[.string s] w fun e w' => e = .returned (.bool (fnB s)) ∧ Below w.heap.size w w' := by
  by_cases h8 : 8 < s.size
  · have E : Hid (fnB s = false) := Lib.hid (by unfold fnB; rw [decide_eq_false (by omega)]; rfl)
    go_enter Tryz.func88, Tryz.ntmps88
    go_wp2_with fail
    go_ret
    exact ⟨by rw [E.out]; rfl, Below.refl _ _⟩
  · have h9 : s.size ≤ 8 := by omega
    have E : Hid (fnB s = match (cutL s.data.toList).toks with
      | [t] => decide (t.k = 3) && decide (t.s = s)
      | _ => false) := Lib.hid (by unfold fnB; rw [decide_eq_true h9]; rfl)
    go_enter Tryz.func88, Tryz.ntmps88
    go_wp2_with fail
    refine (LexC.cut s w (by omega) hl).mono ?_; rintro e w2 ⟨v, rfl, hown, hb2⟩
    have ht := tokAt_own hown
    obtain ⟨A, c, rfl, hc⟩ := own_form hown
    clear hown
    generalize (cutL s.data.toList).toks = l at *
    by_cases h1 : l.length = 1
    · obtain ⟨t, rfl⟩ := List.length_eq_one_iff.1 h1
      obtain ⟨A', c', e, hT⟩ := ht.form
      injection e with e1 e2 e3
      subst e1
      obtain ⟨g, rfl, f0, f1, f2, f3⟩ := hT 0 (by simp)
      obtain ⟨tk, tn, ts, ta⟩ := t
      simp only [List.getElem_cons_zero, Nat.zero_mul, Nat.zero_add] at f0 f1 f2 f3
      simp only [List.length_cons, List.length_nil] at *
      clear hT ht
      by_cases hk : tk = 3
      · subst hk
        by_cases he : ts = s
        · subst he
          go_wp2_with fail
          go_ret
          exact ⟨by rw [E.out]; simp, hb2⟩
        · have hne := list_ne he
          go_wp2_with fail
          go_ret
          exact ⟨by rw [E.out]; simp [he, hne], hb2⟩
      · have b3 : (tk == 3) = false := beq_eq_false_iff_ne.2 hk
        go_wp2_with fail
        go_ret
        exact ⟨by rw [E.out]; simp [hk], hb2⟩
    · have b1 : ((l.length : Int) == 1) = false := beq_eq_false_iff_ne.2 (by omega)
      have E2 : Hid (fnB s = false) := Lib.hid (by
        rw [E.out]
        match l, h1 with
        | [], _ => rfl
        | [t], h => exact absurd rfl h
        | _ :: _ :: _, _ => rfl)
      clear E ht
      generalize l.length = ll at *
      go_wp2_with fail
      go_ret
      exact ⟨by rw [E2.out]; rfl, hb2⟩

end Go.Proofs.YtbgjdfghcnblcaaGreatDoor.TreeC

/-
  Contract of tree's code: fits.
-/
namespace Go.Proofs.YtbgjdfghcnblcaaGreatDoor.TreeC
set_option linter.unusedVariables false
open Go.RowKit Go.Proofs.YtbgjdfghcnblcaaGreatDoor.NumC Go.Proofs.YtbgjdfghcnblcaaGreatDoor.LexC

def noVB (f : Fld) : Bool := ValueC.sameB ⟨f.vk, f.vn, f.vs⟩ ⟨0, 0, { data := #[] }⟩
def noRB (f : Fld) : Bool := decide (f.r1 = 0 ∧ f.r2 = 0 ∧ f.r3 = 0 ∧ f.r4 = 0)
def noOB (f : Fld) : Bool := f.op.toList == []
def noTB (f : Fld) : Bool := decide (f.r3 = 0 ∧ f.r4 = 0)
/-- Has a node what its kind asks for, and nothing besides? -/
def fitsB (f : Fld) (n : Nat) : Bool :=
  if f.k = 1 then constB f.vk f.vn f.vs && noRB f && noOB f && decide (n = 0)
  else if f.k = 2 then AddrC.cellB f.r1 f.r2 && noTB f && noVB f && noOB f && decide (n = 0)
  else if f.k = 3 then AddrC.fineB f.r1 f.r2 f.r3 f.r4 && noVB f && noOB f && decide (n = 0)
  else if f.k = 4 then decide (n = 1) && noVB f && noRB f && noOB f
  else if f.k = 5 then binB f.op && decide (n = 2) && noVB f && noRB f
  else if f.k = 6 then fnB f.op && decide (n ≤ 10) && noVB f && noRB f
  else false
set_option maxHeartbeats 1000000 in
theorem eqIn_addr (a b a' b' : Int) (W : World) :
    (Op.equalIn 9999 25 (.agg #[.int .i64 a, .int .i64 b]) (.agg #[.int .i64 a', .int .i64 b'])).run Tryz.prog W = .ok (decide (a = a' ∧ b = b')) W := by
  have hS2 : Tryz.prog.underlying 25 = some (.struct (Tryz.prog.fieldsOf 25)) := by kernel_rfl
  have hp2 : Tryz.prog.stoodInHeld 25 = false := by kernel_rfl
  have a1 := Tryz.isAgg3; have z1 := Tryz.sizeOf3; have u1 := Tryz.underlying3
  rw [show (9999 : Nat) = 9998 + 1 from rfl, run_equalIn_agg W 9998 25 _ _ hS2 hp2]
  simp only [Program.fieldsOf, Tryz.underlying25]
  go_simp
  by_cases h1 : a = a' <;> by_cases h2 : b = b' <;> simp [h1, h2]
set_option maxHeartbeats 1000000 in
theorem eq_rect (a b c d a' b' c' d' : Int) (W : World) :
    (binOp .eql 27 (.agg #[.int .i64 a, .int .i64 b, .int .i64 c, .int .i64 d]) (.agg #[.int .i64 a', .int .i64 b', .int .i64 c', .int .i64 d'])).run Tryz.prog W = .ok (.bool (decide (a = a' ∧ b = b' ∧ c = c' ∧ d = d'))) W := by
  have hS : Tryz.prog.underlying 27 = some (.struct (Tryz.prog.fieldsOf 27)) := by kernel_rfl
  have hp : Tryz.prog.stoodInHeld 27 = false := by kernel_rfl
  rw [run_eql_struct, show (10000 : Nat) = 9999 + 1 from rfl, run_equalIn_agg W 9999 27 _ _ hS hp]
  simp only [Program.fieldsOf, Tryz.underlying27]
  have p0 : ∀ (x y z u : Int) (w : World), (part 25 #[.int .i64 x, .int .i64 y, .int .i64 z, .int .i64 u] 0).run Tryz.prog w = .ok (.agg #[.int .i64 x, .int .i64 y]) w := fun _ _ _ _ _ => by kernel_rfl
  have p2 : ∀ (x y z u : Int) (w : World), (part 25 #[.int .i64 x, .int .i64 y, .int .i64 z, .int .i64 u] 2).run Tryz.prog w = .ok (.agg #[.int .i64 z, .int .i64 u]) w := fun _ _ _ _ _ => by kernel_rfl
  simp only [Op.eqFields, Sem.run_bind, Sem.run_ite, p0, p2, eqIn_addr, Result.andThen]
  by_cases h1 : a = a' <;> by_cases h2 : b = b' <;> by_cases h3 : c = c' <;> by_cases h4 : d = d' <;> simp [h1, h2, h3, h4]
set_option maxHeartbeats 1000000 in
theorem eq_addr (a b a' b' : Int) (W : World) :
    (binOp .eql 25 (.agg #[.int .i64 a, .int .i64 b]) (.agg #[.int .i64 a', .int .i64 b'])).run Tryz.prog W = .ok (.bool (decide (a = a' ∧ b = b'))) W := by
  have hS2 : Tryz.prog.underlying 25 = some (.struct (Tryz.prog.fieldsOf 25)) := by kernel_rfl
  have hp2 : Tryz.prog.stoodInHeld 25 = false := by kernel_rfl
  have a1 := Tryz.isAgg3; have z1 := Tryz.sizeOf3; have u1 := Tryz.underlying3
  rw [run_eql_struct, show (10000 : Nat) = 9999 + 1 from rfl, run_equalIn_agg W 9999 25 _ _ hS2 hp2]
  simp only [Program.fieldsOf, Tryz.underlying25]
  go_simp
  by_cases h1 : a = a' <;> by_cases h2 : b = b' <;> simp [h1, h2]
set_option maxRecDepth 100000 in
set_option maxHeartbeats 1000000 in
theorem cfits1 (f : Fld) (A : Option Addr) (m c : Nat) (w : World) (hm : m ≤ 1000000) (hl : LexLib w) (hk : f.k = 1) :
    Calls Tryz.prog 55 #[.agg #[.int .i64 f.k, .int .i64 f.vk, .int .i64 f.vn, .string f.vs, .int .i64 f.r1, .int .i64 f.r2, .int .i64 f.r3, .int .i64 f.r4, .string f.op, .slice A m c]] w fun e w' => e = .returned (.bool (fitsB f m)) ∧ Below w.heap.size w w' := by
  have hb1 : Below w.heap.size w (w.alloc (.cells #[.int .i64 f.k, .int .i64 f.vk, .int .i64 f.vn, .string f.vs, .int .i64 f.r1, .int .i64 f.r2, .int .i64 f.r3, .int .i64 f.r4, .string f.op, .slice A m c] 30)) := (Below.refl _ _).alloc (Nat.le_refl _) _
  have L1 : NLoc (w.alloc (.cells #[.int .i64 f.k, .int .i64 f.vk, .int .i64 f.vn, .string f.vs, .int .i64 f.r1, .int .i64 f.r2, .int .i64 f.r3, .int .i64 f.r4, .string f.op, .slice A m c] 30)) w.heap.size f A m c := ⟨heap_alloc_new _ _⟩
  have eV : ∀ W, (binOp .eql 23 (.agg #[.int .i64 f.vk, .int .i64 f.vn, .string f.vs]) (.agg #[.int .i64 0, .int .i64 0, .string { data := #[] }])).run Tryz.prog W = .ok (.bool (noVB f)) W := fun W => ValueC.eqs _ _ _ _ _ _ W
  have eR : ∀ W, (binOp .eql 27 (.agg #[.int .i64 f.r1, .int .i64 f.r2, .int .i64 f.r3, .int .i64 f.r4]) (.agg #[.int .i64 0, .int .i64 0, .int .i64 0, .int .i64 0])).run Tryz.prog W = .ok (.bool (noRB f)) W := fun W => eq_rect _ _ _ _ _ _ _ _ W
  have eO : (f.op.toList == []) = noOB f := rfl
  generalize hD : fitsB f m = D
  have HD := Lib.hid hD.symm
  clear hD
  have HK := Lib.hid hk
  clear hk
  obtain ⟨d0, d1, d2, d3, d4, d5, d6, d7, d8, d9, -⟩ := L1.cells
  go_enter Tryz.func55, Tryz.ntmps55
  go_wp2_with fail
  generalize (w.alloc (.cells #[.int .i64 f.k, .int .i64 f.vk, .int .i64 f.vn, .string f.vs, .int .i64 f.r1, .int .i64 f.r2, .int .i64 f.r3, .int .i64 f.r4, .string f.op, .slice A m c] 30)) = W1 at *
  go_quiet (fail)
  have L2 := L1.kept ((Kept.refl W1.heap.size W1).drew nq) (Nat.ne_of_lt L1.lt)
  have HB0 := Lib.hid (hb1.trans (below_drewN' (Below.refl _ _) nq))
  clear d0 d1 d2 d3 d4 d5 d6 d7 d8 d9
  obtain ⟨d0, d1, d2, d3, d4, d5, d6, d7, d8, d9, -⟩ := L2.cells
  rw [HK.out] at d0
  generalize W1.drewN nq = W2 at *
  clear eV eR eO
  go_wp2_with fail
  refine (cisConst f.vk f.vn f.vs _).mono ?_; rintro e w2 ⟨rfl, hb2⟩
  have HB1 := Lib.hid (HB0.out.trans (hb2.mono HB0.out.size))
  have HE : Hid (D = (constB f.vk f.vn f.vs && noRB f && noOB f && decide (m = 0))) := Lib.hid (HD.out.trans (by simp only [fitsB, HK.out]; simp))
  clear HD
  by_cases hm0 : m = 0
  · have e0 : ((m : Int) == 0) = true := beq_iff_eq.2 (by omega)
    cases c0 : constB f.vk f.vn f.vs <;> cases c1 : noRB f <;> cases c2 : noOB f
    all_goals
      go_wp2_with fail
      go_ret
      exact ⟨by rw [HE.out]; simp [hm0, c0, c1, c2], HB1.out⟩
  · have e0 : ((m : Int) == 0) = false := beq_eq_false_iff_ne.2 (by omega)
    cases c0 : constB f.vk f.vn f.vs <;> cases c1 : noRB f <;> cases c2 : noOB f
    all_goals
      go_wp2_with fail
      go_ret
      exact ⟨by rw [HE.out]; simp [hm0, c0, c1, c2], HB1.out⟩

set_option maxRecDepth 100000 in
set_option maxHeartbeats 1000000 in
theorem cfits2 (f : Fld) (A : Option Addr) (m c : Nat) (w : World) (hm : m ≤ 1000000) (hl : LexLib w) (hk : f.k = 2) :
    Calls Tryz.prog 55 #[.agg #[.int .i64 f.k, .int .i64 f.vk, .int .i64 f.vn, .string f.vs, .int .i64 f.r1, .int .i64 f.r2, .int .i64 f.r3, .int .i64 f.r4, .string f.op, .slice A m c]] w fun e w' => e = .returned (.bool (fitsB f m)) ∧ Below w.heap.size w w' := by
  have hb1 : Below w.heap.size w (w.alloc (.cells #[.int .i64 f.k, .int .i64 f.vk, .int .i64 f.vn, .string f.vs, .int .i64 f.r1, .int .i64 f.r2, .int .i64 f.r3, .int .i64 f.r4, .string f.op, .slice A m c] 30)) := (Below.refl _ _).alloc (Nat.le_refl _) _
  have L1 : NLoc (w.alloc (.cells #[.int .i64 f.k, .int .i64 f.vk, .int .i64 f.vn, .string f.vs, .int .i64 f.r1, .int .i64 f.r2, .int .i64 f.r3, .int .i64 f.r4, .string f.op, .slice A m c] 30)) w.heap.size f A m c := ⟨heap_alloc_new _ _⟩
  have eV : ∀ W, (binOp .eql 23 (.agg #[.int .i64 f.vk, .int .i64 f.vn, .string f.vs]) (.agg #[.int .i64 0, .int .i64 0, .string { data := #[] }])).run Tryz.prog W = .ok (.bool (noVB f)) W := fun W => ValueC.eqs _ _ _ _ _ _ W
  have eR : ∀ W, (binOp .eql 27 (.agg #[.int .i64 f.r1, .int .i64 f.r2, .int .i64 f.r3, .int .i64 f.r4]) (.agg #[.int .i64 0, .int .i64 0, .int .i64 0, .int .i64 0])).run Tryz.prog W = .ok (.bool (noRB f)) W := fun W => eq_rect _ _ _ _ _ _ _ _ W
  have eO : (f.op.toList == []) = noOB f := rfl
  have eT : ∀ W, (binOp .eql 25 (.agg #[.int .i64 f.r3, .int .i64 f.r4]) (.agg #[.int .i64 0, .int .i64 0])).run Tryz.prog W = .ok (.bool (noTB f)) W := fun W => eq_addr _ _ _ _ W
  generalize hD : fitsB f m = D
  have HD := Lib.hid hD.symm
  clear hD
  have HK := Lib.hid hk
  clear hk
  obtain ⟨d0, d1, d2, d3, d4, d5, d6, d7, d8, d9, -⟩ := L1.cells
  go_enter Tryz.func55, Tryz.ntmps55
  go_wp2_with fail
  generalize (w.alloc (.cells #[.int .i64 f.k, .int .i64 f.vk, .int .i64 f.vn, .string f.vs, .int .i64 f.r1, .int .i64 f.r2, .int .i64 f.r3, .int .i64 f.r4, .string f.op, .slice A m c] 30)) = W1 at *
  go_quiet (fail)
  have L2 := L1.kept ((Kept.refl W1.heap.size W1).drew nq) (Nat.ne_of_lt L1.lt)
  have HB0 := Lib.hid (hb1.trans (below_drewN' (Below.refl _ _) nq))
  clear d0 d1 d2 d3 d4 d5 d6 d7 d8 d9
  obtain ⟨d0, d1, d2, d3, d4, d5, d6, d7, d8, d9, -⟩ := L2.cells
  rw [HK.out] at d0
  generalize W1.drewN nq = W2 at *
  clear eV eR eO
  go_wp2_with fail
  refine (AddrC.good f.r1 f.r2 _).mono ?_; rintro e w2 ⟨rfl, hb2⟩
  have L3 := L2.kept (Kept.of (x := W2.heap.size) hb2) (Nat.ne_of_lt L2.lt)
  clear d0 d1 d2 d3 d4 d5 d6 d7 d8 d9
  obtain ⟨d0, d1, d2, d3, d4, d5, d6, d7, d8, d9, -⟩ := L3.cells
  have HB1 := Lib.hid (HB0.out.trans (hb2.mono HB0.out.size))
  have HE : Hid (D = (AddrC.cellB f.r1 f.r2 && noTB f && noVB f && noOB f && decide (m = 0))) := Lib.hid (HD.out.trans (by simp only [fitsB, HK.out]; simp))
  clear HD
  by_cases hm0 : m = 0
  · have e0 : ((m : Int) == 0) = true := beq_iff_eq.2 (by omega)
    cases c0 : AddrC.cellB f.r1 f.r2 <;> cases c1 : noTB f <;> cases c2 : noVB f <;> cases c3 : noOB f
    all_goals
      go_wp2_with fail
      go_ret
      exact ⟨by rw [HE.out]; simp [hm0, c0, c1, c2, c3], HB1.out⟩
  · have e0 : ((m : Int) == 0) = false := beq_eq_false_iff_ne.2 (by omega)
    cases c0 : AddrC.cellB f.r1 f.r2 <;> cases c1 : noTB f <;> cases c2 : noVB f <;> cases c3 : noOB f
    all_goals
      go_wp2_with fail
      go_ret
      exact ⟨by rw [HE.out]; simp [hm0, c0, c1, c2, c3], HB1.out⟩

set_option maxRecDepth 100000 in
set_option maxHeartbeats 1000000 in
theorem cfits3 (f : Fld) (A : Option Addr) (m c : Nat) (w : World) (hm : m ≤ 1000000) (hl : LexLib w) (hk : f.k = 3) :
    Calls Tryz.prog 55 #[.agg #[.int .i64 f.k, .int .i64 f.vk, .int .i64 f.vn, .string f.vs, .int .i64 f.r1, .int .i64 f.r2, .int .i64 f.r3, .int .i64 f.r4, .string f.op, .slice A m c]] w fun e w' => e = .returned (.bool (fitsB f m)) ∧ Below w.heap.size w w' := by
  have hb1 : Below w.heap.size w (w.alloc (.cells #[.int .i64 f.k, .int .i64 f.vk, .int .i64 f.vn, .string f.vs, .int .i64 f.r1, .int .i64 f.r2, .int .i64 f.r3, .int .i64 f.r4, .string f.op, .slice A m c] 30)) := (Below.refl _ _).alloc (Nat.le_refl _) _
  have L1 : NLoc (w.alloc (.cells #[.int .i64 f.k, .int .i64 f.vk, .int .i64 f.vn, .string f.vs, .int .i64 f.r1, .int .i64 f.r2, .int .i64 f.r3, .int .i64 f.r4, .string f.op, .slice A m c] 30)) w.heap.size f A m c := ⟨heap_alloc_new _ _⟩
  have eV : ∀ W, (binOp .eql 23 (.agg #[.int .i64 f.vk, .int .i64 f.vn, .string f.vs]) (.agg #[.int .i64 0, .int .i64 0, .string { data := #[] }])).run Tryz.prog W = .ok (.bool (noVB f)) W := fun W => ValueC.eqs _ _ _ _ _ _ W
  have eR : ∀ W, (binOp .eql 27 (.agg #[.int .i64 f.r1, .int .i64 f.r2, .int .i64 f.r3, .int .i64 f.r4]) (.agg #[.int .i64 0, .int .i64 0, .int .i64 0, .int .i64 0])).run Tryz.prog W = .ok (.bool (noRB f)) W := fun W => eq_rect _ _ _ _ _ _ _ _ W
  have eO : (f.op.toList == []) = noOB f := rfl
  generalize hD : fitsB f m = D
  have HD := Lib.hid hD.symm
  clear hD
  have HK := Lib.hid hk
  clear hk
  obtain ⟨d0, d1, d2, d3, d4, d5, d6, d7, d8, d9, -⟩ := L1.cells
  go_enter Tryz.func55, Tryz.ntmps55
  go_wp2_with fail
  generalize (w.alloc (.cells #[.int .i64 f.k, .int .i64 f.vk, .int .i64 f.vn, .string f.vs, .int .i64 f.r1, .int .i64 f.r2, .int .i64 f.r3, .int .i64 f.r4, .string f.op, .slice A m c] 30)) = W1 at *
  go_quiet (fail)
  have L2 := L1.kept ((Kept.refl W1.heap.size W1).drew nq) (Nat.ne_of_lt L1.lt)
  have HB0 := Lib.hid (hb1.trans (below_drewN' (Below.refl _ _) nq))
  clear d0 d1 d2 d3 d4 d5 d6 d7 d8 d9
  obtain ⟨d0, d1, d2, d3, d4, d5, d6, d7, d8, d9, -⟩ := L2.cells
  rw [HK.out] at d0
  generalize W1.drewN nq = W2 at *
  clear eV eR eO
  go_wp2_with fail
  refine (AddrC.fine f.r1 f.r2 f.r3 f.r4 _).mono ?_; rintro e w2 ⟨rfl, hb2⟩
  have HB1 := Lib.hid (HB0.out.trans (hb2.mono HB0.out.size))
  have HE : Hid (D = (AddrC.fineB f.r1 f.r2 f.r3 f.r4 && noVB f && noOB f && decide (m = 0))) := Lib.hid (HD.out.trans (by simp only [fitsB, HK.out]; simp))
  clear HD
  by_cases hm0 : m = 0
  · have e0 : ((m : Int) == 0) = true := beq_iff_eq.2 (by omega)
    cases c0 : AddrC.fineB f.r1 f.r2 f.r3 f.r4 <;> cases c1 : noVB f <;> cases c2 : noOB f
    all_goals
      go_wp2_with fail
      go_ret
      exact ⟨by rw [HE.out]; simp [hm0, c0, c1, c2], HB1.out⟩
  · have e0 : ((m : Int) == 0) = false := beq_eq_false_iff_ne.2 (by omega)
    cases c0 : AddrC.fineB f.r1 f.r2 f.r3 f.r4 <;> cases c1 : noVB f <;> cases c2 : noOB f
    all_goals
      go_wp2_with fail
      go_ret
      exact ⟨by rw [HE.out]; simp [hm0, c0, c1, c2], HB1.out⟩

set_option maxRecDepth 100000 in
set_option maxHeartbeats 1000000 in
theorem cfits4 (f : Fld) (A : Option Addr) (m c : Nat) (w : World) (hm : m ≤ 1000000) (hl : LexLib w) (hk : f.k = 4) :
    Calls Tryz.prog 55 #[.agg #[.int .i64 f.k, .int .i64 f.vk, .int .i64 f.vn, .string f.vs, .int .i64 f.r1, .int .i64 f.r2, .int .i64 f.r3, .int .i64 f.r4, .string f.op, .slice A m c]] w fun e w' => e = .returned (.bool (fitsB f m)) ∧ Below w.heap.size w w' := by
  have hb1 : Below w.heap.size w (w.alloc (.cells #[.int .i64 f.k, .int .i64 f.vk, .int .i64 f.vn, .string f.vs, .int .i64 f.r1, .int .i64 f.r2, .int .i64 f.r3, .int .i64 f.r4, .string f.op, .slice A m c] 30)) := (Below.refl _ _).alloc (Nat.le_refl _) _
  have L1 : NLoc (w.alloc (.cells #[.int .i64 f.k, .int .i64 f.vk, .int .i64 f.vn, .string f.vs, .int .i64 f.r1, .int .i64 f.r2, .int .i64 f.r3, .int .i64 f.r4, .string f.op, .slice A m c] 30)) w.heap.size f A m c := ⟨heap_alloc_new _ _⟩
  have eV : ∀ W, (binOp .eql 23 (.agg #[.int .i64 f.vk, .int .i64 f.vn, .string f.vs]) (.agg #[.int .i64 0, .int .i64 0, .string { data := #[] }])).run Tryz.prog W = .ok (.bool (noVB f)) W := fun W => ValueC.eqs _ _ _ _ _ _ W
  have eR : ∀ W, (binOp .eql 27 (.agg #[.int .i64 f.r1, .int .i64 f.r2, .int .i64 f.r3, .int .i64 f.r4]) (.agg #[.int .i64 0, .int .i64 0, .int .i64 0, .int .i64 0])).run Tryz.prog W = .ok (.bool (noRB f)) W := fun W => eq_rect _ _ _ _ _ _ _ _ W
  have eO : (f.op.toList == []) = noOB f := rfl
  generalize hD : fitsB f m = D
  have HD := Lib.hid hD.symm
  clear hD
  have HK := Lib.hid hk
  clear hk
  obtain ⟨d0, d1, d2, d3, d4, d5, d6, d7, d8, d9, -⟩ := L1.cells
  go_enter Tryz.func55, Tryz.ntmps55
  go_wp2_with fail
  generalize (w.alloc (.cells #[.int .i64 f.k, .int .i64 f.vk, .int .i64 f.vn, .string f.vs, .int .i64 f.r1, .int .i64 f.r2, .int .i64 f.r3, .int .i64 f.r4, .string f.op, .slice A m c] 30)) = W1 at *
  go_quiet (fail)
  have L2 := L1.kept ((Kept.refl W1.heap.size W1).drew nq) (Nat.ne_of_lt L1.lt)
  have HB0 := Lib.hid (hb1.trans (below_drewN' (Below.refl _ _) nq))
  clear d0 d1 d2 d3 d4 d5 d6 d7 d8 d9
  obtain ⟨d0, d1, d2, d3, d4, d5, d6, d7, d8, d9, -⟩ := L2.cells
  rw [HK.out] at d0
  generalize W1.drewN nq = W2 at *
  clear eV eR eO
  have HE : Hid (D = (decide (m = 1) && noVB f && noRB f && noOB f)) := Lib.hid (HD.out.trans (by simp only [fitsB, HK.out]; simp))
  clear HD
  by_cases hm0 : m = 1
  · have e0 : ((m : Int) == 1) = true := beq_iff_eq.2 (by omega)
    cases c0 : noVB f <;> cases c1 : noRB f <;> cases c2 : noOB f
    all_goals
      go_wp2_with fail
      go_ret
      exact ⟨by rw [HE.out]; simp [hm0, c0, c1, c2], HB0.out⟩
  · have e0 : ((m : Int) == 1) = false := beq_eq_false_iff_ne.2 (by omega)
    cases c0 : noVB f <;> cases c1 : noRB f <;> cases c2 : noOB f
    all_goals
      go_wp2_with fail
      go_ret
      exact ⟨by rw [HE.out]; simp [hm0, c0, c1, c2], HB0.out⟩

set_option maxRecDepth 100000 in
set_option maxHeartbeats 1000000 in
theorem cfits5 (f : Fld) (A : Option Addr) (m c : Nat) (w : World) (hm : m ≤ 1000000) (hl : LexLib w) (hk : f.k = 5) :
    Calls Tryz.prog 55 #[.agg #[.int .i64 f.k, .int .i64 f.vk, .int .i64 f.vn, .string f.vs, .int .i64 f.r1, .int .i64 f.r2, .int .i64 f.r3, .int .i64 f.r4, .string f.op, .slice A m c]] w fun e w' => e = .returned (.bool (fitsB f m)) ∧ Below w.heap.size w w' := by
  have hb1 : Below w.heap.size w (w.alloc (.cells #[.int .i64 f.k, .int .i64 f.vk, .int .i64 f.vn, .string f.vs, .int .i64 f.r1, .int .i64 f.r2, .int .i64 f.r3, .int .i64 f.r4, .string f.op, .slice A m c] 30)) := (Below.refl _ _).alloc (Nat.le_refl _) _
  have L1 : NLoc (w.alloc (.cells #[.int .i64 f.k, .int .i64 f.vk, .int .i64 f.vn, .string f.vs, .int .i64 f.r1, .int .i64 f.r2, .int .i64 f.r3, .int .i64 f.r4, .string f.op, .slice A m c] 30)) w.heap.size f A m c := ⟨heap_alloc_new _ _⟩
  have eV : ∀ W, (binOp .eql 23 (.agg #[.int .i64 f.vk, .int .i64 f.vn, .string f.vs]) (.agg #[.int .i64 0, .int .i64 0, .string { data := #[] }])).run Tryz.prog W = .ok (.bool (noVB f)) W := fun W => ValueC.eqs _ _ _ _ _ _ W
  have eR : ∀ W, (binOp .eql 27 (.agg #[.int .i64 f.r1, .int .i64 f.r2, .int .i64 f.r3, .int .i64 f.r4]) (.agg #[.int .i64 0, .int .i64 0, .int .i64 0, .int .i64 0])).run Tryz.prog W = .ok (.bool (noRB f)) W := fun W => eq_rect _ _ _ _ _ _ _ _ W
  have eO : (f.op.toList == []) = noOB f := rfl
  generalize hD : fitsB f m = D
  have HD := Lib.hid hD.symm
  clear hD
  have HK := Lib.hid hk
  clear hk
  obtain ⟨d0, d1, d2, d3, d4, d5, d6, d7, d8, d9, -⟩ := L1.cells
  go_enter Tryz.func55, Tryz.ntmps55
  go_wp2_with fail
  generalize (w.alloc (.cells #[.int .i64 f.k, .int .i64 f.vk, .int .i64 f.vn, .string f.vs, .int .i64 f.r1, .int .i64 f.r2, .int .i64 f.r3, .int .i64 f.r4, .string f.op, .slice A m c] 30)) = W1 at *
  go_quiet (fail)
  have L2 := L1.kept ((Kept.refl W1.heap.size W1).drew nq) (Nat.ne_of_lt L1.lt)
  have HB0 := Lib.hid (hb1.trans (below_drewN' (Below.refl _ _) nq))
  clear d0 d1 d2 d3 d4 d5 d6 d7 d8 d9
  obtain ⟨d0, d1, d2, d3, d4, d5, d6, d7, d8, d9, -⟩ := L2.cells
  rw [HK.out] at d0
  generalize W1.drewN nq = W2 at *
  clear eV eR eO
  go_wp2_with fail
  refine (cisBinary f.op _).mono ?_; rintro e w2 ⟨rfl, hb2⟩
  have HB1 := Lib.hid (HB0.out.trans (hb2.mono HB0.out.size))
  have HE : Hid (D = (binB f.op && decide (m = 2) && noVB f && noRB f)) := Lib.hid (HD.out.trans (by simp only [fitsB, HK.out]; simp))
  clear HD
  by_cases hm0 : m = 2
  · have e0 : ((m : Int) == 2) = true := beq_iff_eq.2 (by omega)
    cases c0 : binB f.op <;> cases c1 : noVB f <;> cases c2 : noRB f
    all_goals
      go_wp2_with fail
      go_ret
      exact ⟨by rw [HE.out]; simp [hm0, c0, c1, c2], HB1.out⟩
  · have e0 : ((m : Int) == 2) = false := beq_eq_false_iff_ne.2 (by omega)
    cases c0 : binB f.op <;> cases c1 : noVB f <;> cases c2 : noRB f
    all_goals
      go_wp2_with fail
      go_ret
      exact ⟨by rw [HE.out]; simp [hm0, c0, c1, c2], HB1.out⟩

set_option maxRecDepth 100000 in
set_option maxHeartbeats 1000000 in
theorem cfits6 (f : Fld) (A : Option Addr) (m c : Nat) (w : World) (hm : m ≤ 1000000) (hl : LexLib w) (hk : f.k = 6) :
    Calls Tryz.prog 55 #[.agg #[.int .i64 f.k, .int .i64 f.vk, .int .i64 f.vn, .string f.vs, .int .i64 f.r1, .int .i64 f.r2, .int .i64 f.r3, .int .i64 f.r4, .string f.op, .slice A m c]] w fun e w' => e = .returned (.bool (fitsB f m)) ∧ Below w.heap.size w w' := by
  have hb1 : Below w.heap.size w (w.alloc (.cells #[.int .i64 f.k, .int .i64 f.vk, .int .i64 f.vn, .string f.vs, .int .i64 f.r1, .int .i64 f.r2, .int .i64 f.r3, .int .i64 f.r4, .string f.op, .slice A m c] 30)) := (Below.refl _ _).alloc (Nat.le_refl _) _
  have L1 : NLoc (w.alloc (.cells #[.int .i64 f.k, .int .i64 f.vk, .int .i64 f.vn, .string f.vs, .int .i64 f.r1, .int .i64 f.r2, .int .i64 f.r3, .int .i64 f.r4, .string f.op, .slice A m c] 30)) w.heap.size f A m c := ⟨heap_alloc_new _ _⟩
  have eV : ∀ W, (binOp .eql 23 (.agg #[.int .i64 f.vk, .int .i64 f.vn, .string f.vs]) (.agg #[.int .i64 0, .int .i64 0, .string { data := #[] }])).run Tryz.prog W = .ok (.bool (noVB f)) W := fun W => ValueC.eqs _ _ _ _ _ _ W
  have eR : ∀ W, (binOp .eql 27 (.agg #[.int .i64 f.r1, .int .i64 f.r2, .int .i64 f.r3, .int .i64 f.r4]) (.agg #[.int .i64 0, .int .i64 0, .int .i64 0, .int .i64 0])).run Tryz.prog W = .ok (.bool (noRB f)) W := fun W => eq_rect _ _ _ _ _ _ _ _ W
  have eO : (f.op.toList == []) = noOB f := rfl
  generalize hD : fitsB f m = D
  have HD := Lib.hid hD.symm
  clear hD
  have HK := Lib.hid hk
  clear hk
  obtain ⟨d0, d1, d2, d3, d4, d5, d6, d7, d8, d9, -⟩ := L1.cells
  go_enter Tryz.func55, Tryz.ntmps55
  go_wp2_with fail
  generalize (w.alloc (.cells #[.int .i64 f.k, .int .i64 f.vk, .int .i64 f.vn, .string f.vs, .int .i64 f.r1, .int .i64 f.r2, .int .i64 f.r3, .int .i64 f.r4, .string f.op, .slice A m c] 30)) = W1 at *
  go_quiet (fail)
  have L2 := L1.kept ((Kept.refl W1.heap.size W1).drew nq) (Nat.ne_of_lt L1.lt)
  have HB0 := Lib.hid (hb1.trans (below_drewN' (Below.refl _ _) nq))
  clear d0 d1 d2 d3 d4 d5 d6 d7 d8 d9
  obtain ⟨d0, d1, d2, d3, d4, d5, d6, d7, d8, d9, -⟩ := L2.cells
  rw [HK.out] at d0
  generalize W1.drewN nq = W2 at *
  clear eV eR eO
  go_wp2_with fail
  refine (cisName f.op _ (hl.below HB0.out)).mono ?_; rintro e w2 ⟨rfl, hb2⟩
  have HB1 := Lib.hid (HB0.out.trans (hb2.mono HB0.out.size))
  have HE : Hid (D = (fnB f.op && decide (m ≤ 10) && noVB f && noRB f)) := Lib.hid (HD.out.trans (by simp only [fitsB, HK.out]; simp))
  clear HD
  by_cases hm0 : m ≤ 10
  · have e0 : (m : Int) ≤ 10 := by omega
    cases c0 : fnB f.op <;> cases c1 : noVB f <;> cases c2 : noRB f
    all_goals
      go_wp2_with fail
      go_ret
      exact ⟨by rw [HE.out]; simp [hm0, c0, c1, c2], HB1.out⟩
  · have e0 : ¬ (m : Int) ≤ 10 := by omega
    cases c0 : fnB f.op <;> cases c1 : noVB f <;> cases c2 : noRB f
    all_goals
      go_wp2_with fail
      go_ret
      exact ⟨by rw [HE.out]; simp [hm0, c0, c1, c2], HB1.out⟩

set_option maxRecDepth 100000 in
set_option maxHeartbeats 1000000 in
theorem cfits0 (f : Fld) (A : Option Addr) (m c : Nat) (w : World) (hm : m ≤ 1000000) (hl : LexLib w) (h1 : f.k ≠ 1) (h2 : f.k ≠ 2) (h3 : f.k ≠ 3) (h4 : f.k ≠ 4) (h5 : f.k ≠ 5) (h6 : f.k ≠ 6) :
    Calls Tryz.prog 55 #[.agg #[.int .i64 f.k, .int .i64 f.vk, .int .i64 f.vn, .string f.vs, .int .i64 f.r1, .int .i64 f.r2, .int .i64 f.r3, .int .i64 f.r4, .string f.op, .slice A m c]] w fun e w' => e = .returned (.bool (fitsB f m)) ∧ Below w.heap.size w w' := by
  have hb1 : Below w.heap.size w (w.alloc (.cells #[.int .i64 f.k, .int .i64 f.vk, .int .i64 f.vn, .string f.vs, .int .i64 f.r1, .int .i64 f.r2, .int .i64 f.r3, .int .i64 f.r4, .string f.op, .slice A m c] 30)) := (Below.refl _ _).alloc (Nat.le_refl _) _
  have L1 : NLoc (w.alloc (.cells #[.int .i64 f.k, .int .i64 f.vk, .int .i64 f.vn, .string f.vs, .int .i64 f.r1, .int .i64 f.r2, .int .i64 f.r3, .int .i64 f.r4, .string f.op, .slice A m c] 30)) w.heap.size f A m c := ⟨heap_alloc_new _ _⟩
  have eV : ∀ W, (binOp .eql 23 (.agg #[.int .i64 f.vk, .int .i64 f.vn, .string f.vs]) (.agg #[.int .i64 0, .int .i64 0, .string { data := #[] }])).run Tryz.prog W = .ok (.bool (noVB f)) W := fun W => ValueC.eqs _ _ _ _ _ _ W
  have eR : ∀ W, (binOp .eql 27 (.agg #[.int .i64 f.r1, .int .i64 f.r2, .int .i64 f.r3, .int .i64 f.r4]) (.agg #[.int .i64 0, .int .i64 0, .int .i64 0, .int .i64 0])).run Tryz.prog W = .ok (.bool (noRB f)) W := fun W => eq_rect _ _ _ _ _ _ _ _ W
  have eO : (f.op.toList == []) = noOB f := rfl
  generalize hD : fitsB f m = D
  have HD := Lib.hid hD.symm
  clear hD
  have HK := Lib.hid (And.intro h1 (And.intro h2 (And.intro h3 (And.intro h4 (And.intro h5 h6)))))
  clear h1 h2 h3 h4 h5 h6
  obtain ⟨d0, d1, d2, d3, d4, d5, d6, d7, d8, d9, -⟩ := L1.cells
  go_enter Tryz.func55, Tryz.ntmps55
  go_wp2_with fail
  generalize (w.alloc (.cells #[.int .i64 f.k, .int .i64 f.vk, .int .i64 f.vn, .string f.vs, .int .i64 f.r1, .int .i64 f.r2, .int .i64 f.r3, .int .i64 f.r4, .string f.op, .slice A m c] 30)) = W1 at *
  go_quiet (fail)
  have L2 := L1.kept ((Kept.refl W1.heap.size W1).drew nq) (Nat.ne_of_lt L1.lt)
  have HB0 := Lib.hid (hb1.trans (below_drewN' (Below.refl _ _) nq))
  clear d0 d1 d2 d3 d4 d5 d6 d7 d8 d9
  obtain ⟨d0, d1, d2, d3, d4, d5, d6, d7, d8, d9, -⟩ := L2.cells
  have b1 : (f.k == 1) = false := beq_eq_false_iff_ne.2 HK.out.1
  have b2 : (f.k == 2) = false := beq_eq_false_iff_ne.2 HK.out.2.1
  have b3 : (f.k == 3) = false := beq_eq_false_iff_ne.2 HK.out.2.2.1
  have b4 : (f.k == 4) = false := beq_eq_false_iff_ne.2 HK.out.2.2.2.1
  have b5 : (f.k == 5) = false := beq_eq_false_iff_ne.2 HK.out.2.2.2.2.1
  have b6 : (f.k == 6) = false := beq_eq_false_iff_ne.2 HK.out.2.2.2.2.2
  generalize W1.drewN nq = W2 at *
  clear eV eR eO
  have HE : Hid (D = false) := Lib.hid (HD.out.trans (by simp [fitsB, HK.out.1, HK.out.2.1, HK.out.2.2.1, HK.out.2.2.2.1, HK.out.2.2.2.2.1, HK.out.2.2.2.2.2]))
  go_wp2_with fail
  go_ret
  exact ⟨by rw [HE.out]; rfl, HB0.out⟩

theorem fits_all : Fits fitsB := fun f A m c w hm hl => by
  by_cases h1 : f.k = 1
  · exact cfits1 f A m c w hm hl h1
  by_cases h2 : f.k = 2
  · exact cfits2 f A m c w hm hl h2
  by_cases h3 : f.k = 3
  · exact cfits3 f A m c w hm hl h3
  by_cases h4 : f.k = 4
  · exact cfits4 f A m c w hm hl h4
  by_cases h5 : f.k = 5
  · exact cfits5 f A m c w hm hl h5
  by_cases h6 : f.k = 6
  · exact cfits6 f A m c w hm hl h6
  exact cfits0 f A m c w hm hl h1 h2 h3 h4 h5 h6

end Go.Proofs.YtbgjdfghcnblcaaGreatDoor.TreeC

/-
  What every law of tree asks besides: three formulas.
-/
namespace Go.Proofs.YtbgjdfghcnblcaaGreatDoor.TreeC
set_option linter.unusedVariables false
open Go.RowKit Go.Proofs.YtbgjdfghcnblcaaGreatDoor.NumC Go.Proofs.YtbgjdfghcnblcaaGreatDoor.LexC

def w1N : Nd := pairN [43] (constN 2 1 nob) (pairN [42] (constN 2 2 nob) (constN 2 3 nob))
def w2N : Nd := pairN [94] (negN (constN 2 2 nob)) (constN 2 2 nob)
theorem w1_parse : parseL ({ data := #[49, 43, 50, 42, 51] } : ByteArray).data.toList = ⟨w1N, 0, 0⟩ := by kernel_rfl
theorem w2_parse : parseL ({ data := #[45, 50, 94, 50] } : ByteArray).data.toList = ⟨w2N, 0, 0⟩ := by kernel_rfl
theorem w3_parse : parseL ({ data := #[49, 43] } : ByteArray).data.toList = ⟨zeroN, 2, 13⟩ := by kernel_rfl
theorem w1_good : goodT fitsB w1N = true := by kernel_rfl
theorem w1_deep : w1N.deep = 3 := by kernel_rfl
theorem w1_size : w1N.size = 5 := by kernel_rfl
end Go.Proofs.YtbgjdfghcnblcaaGreatDoor.TreeC
