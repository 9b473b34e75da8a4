/-
  Contracts of the reference's numbers: whole, signed, or, Add, Sub. Nothing is assumed but that the arguments are numbers of their kinds.
-/
import Derived.Test.YtkfgcnomojopdaaDoorProg
import Derived.Test.YtkfgcnomojopdaaDoorNumM
import Derived.WalkKit
import Derived.WalkSpells
import Derived.WalkLawsBesides
import Derived.Deep.QuietTactic
import Derived.BigQuiet
import Derived.Lib.Hide
namespace Go.Proofs.YtkfgcnomojopdaaDoor.NumC
set_option linter.unusedVariables false
open Go.RowKit

/-- A number, if there is one. -/
def gotV (n : Int) (b : Bool) : Value := .agg #[.int .i64 n, .bool b]
theorem got_eq {n n' : Int} {b b' : Bool} (hn : n = n') (hb : b = b') : Ending.returned (.agg #[.int .i64 n, .bool b]) = .returned (.agg #[.int .i64 n', .bool b']) := by subst hn hb; rfl

theorem retu {x x' : Int} (hx : x = x') : Ending.returned (.int .u64 x) = .returned (.int .u64 x') := by subst hx; rfl
theorem u64_neg_back {u : Int} (h0 : 0 ≤ u) (h1 : u ≤ 9223372036854775808) : wrap64 (-wrap64 u) = -u ∨ u = 9223372036854775808 := by
  unfold wrap64; omega

set_option maxHeartbeats 400000 in
theorem rwhole (a : Int) (w : World) (ha : I64 a) :
    Calls Tryd.prog 32 #[.int .i64 a] w fun e w' => e = .returned (.int .u64 (siz a)) ∧ w = w' := by
  have ha1 := ha; unfold I64 at ha1
  by_cases h : a < 0
  · have E := Lib.hid (siz_neg h)
    go_enter Tryd.func32, Tryd.ntmps32
    go_wp2
    go_ret
    exact ⟨retu (by rw [E.out]; omega), rfl⟩
  · have E := Lib.hid (siz_pos h)
    go_enter Tryd.func32, Tryd.ntmps32
    go_wp2
    go_ret
    exact ⟨retu (by rw [E.out]), rfl⟩

set_option maxHeartbeats 400000 in
theorem rsigned (u : Int) (b : Bool) (w : World) (h0 : 0 ≤ u) (h1 : u ≤ 18446744073709551615) :
    Calls Tryd.prog 33 #[.int .u64 u, .bool b] w fun e w' => e = .returned (.agg #[.int .i64 (fitN (sgd b u)), .bool (fitB (sgd b u))]) ∧ Below w.heap.size w w' := by
  cases b
  · by_cases h : u < 9223372036854775808
    · have H := Lib.hid (i64_sgd_f h0 h)
      go_enter Tryd.func33, Tryd.ntmps33
      go_wp2
      refine bodyPost_ret (v := .agg #[.int .i64 u, .bool true]) (by simp [results, Tryd.results33, go_sem]) rfl ⟨?_, ?_⟩
      · exact got_eq (by rw [fitN_yes H.out, sgd_f]) (by rw [fitB_yes H.out])
      · exact (Below.refl _ _).alloc (Nat.le_refl _) _
    · have H := Lib.hid (i64_sgd_f' h)
      go_enter Tryd.func33, Tryd.ntmps33
      go_wp2
      refine bodyPost_ret (v := .agg #[.int .i64 0, .bool false]) (by simp [results, Tryd.results33, go_sem]) rfl ⟨?_, ?_⟩
      · exact got_eq (by rw [fitN_no H.out]) (by rw [fitB_no H.out])
      · exact (Below.refl _ _).alloc (Nat.le_refl _) _
  · by_cases h : u ≤ 9223372036854775808
    · have H := Lib.hid (i64_sgd_t h0 h)
      by_cases h2 : u = 9223372036854775808
      · subst h2
        go_enter Tryd.func33, Tryd.ntmps33
        go_wp2
        refine bodyPost_ret (v := .agg #[.int .i64 (-9223372036854775808), .bool true]) (by simp [results, Tryd.results33, go_sem]) rfl ⟨?_, ?_⟩
        · exact got_eq (by rw [fitN_yes H.out, sgd_t]) (by rw [fitB_yes H.out])
        · exact (Below.refl _ _).alloc (Nat.le_refl _) _
      · have h3 : u < 9223372036854775808 := by omega
        have h4 : (u == 9223372036854775808) = false := by simpa using h2
        clear h2
        go_enter Tryd.func33, Tryd.ntmps33
        go_wp2
        refine bodyPost_ret (v := .agg #[.int .i64 (-u), .bool true]) (by simp [results, Tryd.results33, go_sem]) rfl ⟨?_, ?_⟩
        · exact got_eq (by rw [fitN_yes H.out, sgd_t]) (by rw [fitB_yes H.out])
        · exact (Below.refl _ _).alloc (Nat.le_refl _) _
  
    · have H := Lib.hid (i64_sgd_t' h)
      have h4 : (u == 9223372036854775808) = false := by simp; omega
      go_enter Tryd.func33, Tryd.ntmps33
      go_wp2
      refine bodyPost_ret (v := .agg #[.int .i64 0, .bool false]) (by simp [results, Tryd.results33, go_sem]) rfl ⟨?_, ?_⟩
      · exact got_eq (by rw [fitN_no H.out]) (by rw [fitB_no H.out])
      · exact (Below.refl _ _).alloc (Nat.le_refl _) _

set_option maxHeartbeats 400000 in
theorem ror (n : Int) (b c : Bool) (w : World) :
    Calls Tryd.prog 34 #[.agg #[.int .i64 n, .bool b], .bool c] w fun e w' => e = .returned (.agg #[.int .i64 (if c then 0 else n), .bool (if c then false else b)]) ∧ Below w.heap.size w w' := by
  cases c
  · go_enter Tryd.func34, Tryd.ntmps34
    go_wp2
    refine bodyPost_ret (v := .agg #[.int .i64 n, .bool b]) (by simp [results, Tryd.results34, go_sem]) rfl ⟨?_, ?_⟩
    · exact got_eq rfl rfl
    · exact ((Below.refl _ _).alloc (Nat.le_refl _) _).alloc (by simp) _
  · go_enter Tryd.func34, Tryd.ntmps34
    go_wp2
    refine bodyPost_ret (v := .agg #[.int .i64 0, .bool false]) (by simp [results, Tryd.results34, go_sem]) rfl ⟨?_, ?_⟩
    · exact got_eq rfl rfl
    · exact ((Below.refl _ _).alloc (Nat.le_refl _) _).alloc (by simp) _

theorem bcell {W w1 : World} (hb : Below W.heap.size W w1) : (∀ b o, b < W.heap.size → w1.cell? ⟨b, o, none⟩ = W.cell? ⟨b, o, none⟩) ∧ (∀ b o, b < W.heap.size → w1.frozen? ⟨b, o, none⟩ = W.frozen? ⟨b, o, none⟩) :=
  ⟨fun b o h => hb.cell (p := ⟨b, o, none⟩) h, fun b o h => hb.frozen (p := ⟨b, o, none⟩) h⟩

theorem below_of {w w1 : World} {o : Obj} (hb1 : Below (w.alloc o).heap.size (w.alloc o) w1) : Below w.heap.size w w1 :=
  ((Below.refl _ _).alloc (Nat.le_refl _) o).trans (hb1.mono (by simp))
theorem size_of {w w1 : World} {o : Obj} (hb1 : Below (w.alloc o).heap.size (w.alloc o) w1) : w.heap.size < w1.heap.size := by
  have := hb1.size; simp at this; omega

theorem below_then {w w1 w2 : World} {o : Obj} (hb1 : Below (w.alloc o).heap.size (w.alloc o) w1) (hb2 : Below w1.heap.size w1 w2) : Below (w.alloc o).heap.size (w.alloc o) w2 :=
  hb1.trans (hb2.mono hb1.size)
theorem sgd_mixed1 {a b : Int} (h1 : a < 0) (h2 : ¬ b < 0) : sgd true (siz a - siz b) = a + b := by rw [siz_neg h1, siz_pos h2, sgd_t]; omega
theorem sgd_mixed2 {a b : Int} (h1 : a < 0) (h2 : ¬ b < 0) : sgd false (siz b - siz a) = a + b := by rw [siz_neg h1, siz_pos h2, sgd_f]; omega
theorem sgd_mixed0 {a b : Int} (h1 : a < 0) (h2 : ¬ b < 0) (h : siz a = siz b) : sgd false (siz a - siz b) = a + b := by rw [siz_neg h1, siz_pos h2] at *; rw [sgd_f]; omega
theorem sgd_mixed3 {a b : Int} (h1 : ¬ a < 0) (h2 : b < 0) : sgd false (siz a - siz b) = a + b := by rw [siz_pos h1, siz_neg h2, sgd_f]; omega
theorem sgd_mixed4 {a b : Int} (h1 : ¬ a < 0) (h2 : b < 0) : sgd true (siz b - siz a) = a + b := by rw [siz_pos h1, siz_neg h2, sgd_t]; omega
theorem sgd_same1 {a b : Int} (h1 : a < 0) (h2 : b < 0) : sgd true (siz a + siz b) = a + b := by rw [siz_neg h1, siz_neg h2, sgd_t]; omega
theorem sgd_same2 {a b : Int} (h1 : ¬ a < 0) (h2 : ¬ b < 0) : sgd false (siz a + siz b) = a + b := by rw [siz_pos h1, siz_pos h2, sgd_f]

set_option maxHeartbeats 1000000 in
theorem radd_same (a b : Int) (w : World) (ha : I64 a) (hb : I64 b) (hs : a < 0 ∧ b < 0 ∨ ¬ a < 0 ∧ ¬ b < 0) :
    Calls Tryd.prog 12 #[.int .i64 a, .int .i64 b] w fun e w' => e = .returned (.agg #[.int .i64 (fitN (a + b)), .bool (fitB (a + b))]) ∧ Below w.heap.size w w' := by
  have Sa := siz_bd ha; have Sb := siz_bd hb
  rcases hs with ⟨h1, h2⟩ | ⟨h1, h2⟩
  · have Pa : 0 < siz a := by rw [siz_neg h1]; omega
    have Pb : 0 < siz b := by rw [siz_neg h2]; omega
    have Pab : 0 < siz a + siz b := by omega
    by_cases h3 : siz a + siz b ≤ 18446744073709551615
    · have E := Lib.hid (sgd_same1 h1 h2)
      go_enter Tryd.func12, Tryd.ntmps12
      go_wp2_with fail
      refine (rwhole _ _ ha).mono ?_; rintro e w' ⟨rfl, rfl⟩
      go_wp2_with fail
      refine (rwhole _ _ hb).mono ?_; rintro e w' ⟨rfl, rfl⟩
      go_wp2_with fail
      refine (rsigned _ _ _ (by omega) (by omega)).mono ?_
      rw [E.out]
      rintro e w1 ⟨rfl, hb1⟩
      obtain ⟨hc, hf⟩ := bcell hb1
      have hz := size_of hb1
      go_wp2_with fail
      refine (ror _ _ _ _).mono ?_
      rintro e w2 ⟨rfl, hb2⟩
      have hb3 := below_then hb1 hb2
      clear hc hf
      obtain ⟨hc, hf⟩ := bcell hb3
      go_wp2
      refine bodyPost_ret (v := .agg #[.int .i64 (fitN (a + b)), .bool (fitB (a + b))]) (by simp [results, Tryd.results12, go_sem, hc]) rfl ⟨rfl, ?_⟩
      exact ((below_of hb3).setCell (Nat.le_refl _) _).setCell (Nat.le_refl _) _
    · have ea : a = -9223372036854775808 := by rw [siz_neg h1] at *; rw [siz_neg h2] at *; omega
      have eb : b = -9223372036854775808 := by rw [siz_neg h1] at *; rw [siz_neg h2] at *; omega
      subst ea eb
      have es : siz (-9223372036854775808) = 9223372036854775808 := by decide
      have E1 : Hid (fitN (-9223372036854775808 + -9223372036854775808) = 0) := Lib.hid (by decide)
      have E2 : Hid (fitB (-9223372036854775808 + -9223372036854775808) = false) := Lib.hid (by decide)
      have E3 := Lib.hid es; clear es Sa Sb Pa Pb Pab h3
      go_enter Tryd.func12, Tryd.ntmps12
      go_wp2_with fail
      refine (rwhole _ _ ha).mono ?_; rw [E3.out]; rintro e w' ⟨rfl, rfl⟩
      go_wp2_with fail
      refine (rwhole _ _ hb).mono ?_; rw [E3.out]; rintro e w' ⟨rfl, rfl⟩
      go_wp2_with fail
      rw [show IntKind.u64.wrap 18446744073709551616 = 0 from by rw [IntKind.wrap_u64]; rfl]
      refine (rsigned _ _ _ (by omega) (by omega)).mono ?_
      rintro e w1 ⟨rfl, hb1⟩
      obtain ⟨hc, hf⟩ := bcell hb1
      have hz := size_of hb1
      go_wp2_with fail
      refine (ror _ _ _ _).mono ?_
      rintro e w2 ⟨rfl, hb2⟩
      have hb3 := below_then hb1 hb2
      clear hc hf
      obtain ⟨hc, hf⟩ := bcell hb3
      go_wp2
      refine bodyPost_ret (v := .agg #[.int .i64 0, .bool false]) (by simp [results, Tryd.results12, go_sem, hc]) rfl ⟨?_, ?_⟩
      · exact got_eq E1.out.symm E2.out.symm
      · exact ((below_of hb3).setCell (Nat.le_refl _) _).setCell (Nat.le_refl _) _
  · have d1 : decide (a < 0) = false := decide_eq_false h1
    have d2 : decide (b < 0) = false := decide_eq_false h2
    have hle : siz a + siz b ≤ 18446744073709551614 := by rw [siz_pos h1, siz_pos h2]; unfold I64 at ha hb; omega
    have E := Lib.hid (sgd_same2 h1 h2)
    go_enter Tryd.func12, Tryd.ntmps12
    go_wp2_with fail
    refine (rwhole _ _ ha).mono ?_; rintro e w' ⟨rfl, rfl⟩
    go_wp2_with fail
    refine (rwhole _ _ hb).mono ?_; rintro e w' ⟨rfl, rfl⟩
    go_wp2_with fail
    refine (rsigned _ _ _ (by omega) (by omega)).mono ?_
    rw [E.out]
    rintro e w1 ⟨rfl, hb1⟩
    obtain ⟨hc, hf⟩ := bcell hb1
    have hz := size_of hb1
    go_wp2_with fail
    refine (ror _ _ _ _).mono ?_
    rintro e w2 ⟨rfl, hb2⟩
    have hb3 := below_then hb1 hb2
    clear hc hf
    obtain ⟨hc, hf⟩ := bcell hb3
    go_wp2
    refine bodyPost_ret (v := .agg #[.int .i64 (fitN (a + b)), .bool (fitB (a + b))]) (by simp [results, Tryd.results12, go_sem, hc]) rfl ⟨rfl, ?_⟩
    exact ((below_of hb3).setCell (Nat.le_refl _) _).setCell (Nat.le_refl _) _

set_option maxHeartbeats 1000000 in
theorem radd_mixed (a b : Int) (w : World) (ha : I64 a) (hb : I64 b) (hs : a < 0 ∧ ¬ b < 0 ∨ ¬ a < 0 ∧ b < 0) :
    Calls Tryd.prog 12 #[.int .i64 a, .int .i64 b] w fun e w' => e = .returned (.agg #[.int .i64 (fitN (a + b)), .bool (fitB (a + b))]) ∧ Below w.heap.size w w' := by
  have Sa := siz_bd ha; have Sb := siz_bd hb
  have h3 : siz b < siz a ∨ siz a = siz b ∨ siz a < siz b := by omega
  rcases hs with ⟨h1, h2⟩ | ⟨h1, h2⟩
  · rcases h3 with h3 | h3 | h3
    · have d2 : decide (b < 0) = false := decide_eq_false h2
      have E := Lib.hid (sgd_mixed1 h1 h2)
      go_enter Tryd.func12, Tryd.ntmps12
      go_wp2_with fail
      refine (rwhole _ _ ha).mono ?_; rintro e w' ⟨rfl, rfl⟩
      go_wp2_with fail
      refine (rwhole _ _ hb).mono ?_; rintro e w' ⟨rfl, rfl⟩
      go_wp2_with fail
      refine (rsigned _ _ _ (by omega) (by omega)).mono ?_
      rw [E.out]
      rintro e w1 ⟨rfl, hb1⟩
      obtain ⟨hc, hf⟩ := bcell hb1
      go_wp2
      refine bodyPost_ret (v := .agg #[.int .i64 (fitN (a + b)), .bool (fitB (a + b))]) (by simp [results, Tryd.results12, go_sem, hc]) rfl ⟨rfl, ?_⟩
      exact ((below_of hb1).setCell (Nat.le_refl _) _).setCell (Nat.le_refl _) _
    · have d2 : decide (b < 0) = false := decide_eq_false h2
      have d3 : decide (siz b < siz a) = false := decide_eq_false (by omega)
      have E := Lib.hid (sgd_mixed0 h1 h2 h3)
      have h4 : siz b ≤ siz a := by omega
      have h5 : ¬ siz b < siz a := by omega
      clear h3
      go_enter Tryd.func12, Tryd.ntmps12
      go_wp2_with fail
      refine (rwhole _ _ ha).mono ?_; rintro e w' ⟨rfl, rfl⟩
      go_wp2_with fail
      refine (rwhole _ _ hb).mono ?_; rintro e w' ⟨rfl, rfl⟩
      go_wp2_with fail
      refine (rsigned _ _ _ (by omega) (by omega)).mono ?_
      rw [E.out]
      rintro e w1 ⟨rfl, hb1⟩
      obtain ⟨hc, hf⟩ := bcell hb1
      go_wp2
      refine bodyPost_ret (v := .agg #[.int .i64 (fitN (a + b)), .bool (fitB (a + b))]) (by simp [results, Tryd.results12, go_sem, hc]) rfl ⟨rfl, ?_⟩
      exact ((below_of hb1).setCell (Nat.le_refl _) _).setCell (Nat.le_refl _) _
    · have d2 : decide (b < 0) = false := decide_eq_false h2
      have E := Lib.hid (sgd_mixed2 h1 h2)
      go_enter Tryd.func12, Tryd.ntmps12
      go_wp2_with fail
      refine (rwhole _ _ ha).mono ?_; rintro e w' ⟨rfl, rfl⟩
      go_wp2_with fail
      refine (rwhole _ _ hb).mono ?_; rintro e w' ⟨rfl, rfl⟩
      go_wp2_with fail
      refine (rsigned _ _ _ (by omega) (by omega)).mono ?_
      rw [E.out]
      rintro e w1 ⟨rfl, hb1⟩
      obtain ⟨hc, hf⟩ := bcell hb1
      go_wp2
      refine bodyPost_ret (v := .agg #[.int .i64 (fitN (a + b)), .bool (fitB (a + b))]) (by simp [results, Tryd.results12, go_sem, hc]) rfl ⟨rfl, ?_⟩
      exact ((below_of hb1).setCell (Nat.le_refl _) _).setCell (Nat.le_refl _) _
  · rcases h3 with h3 | h3 | h3
    · have d1 : decide (a < 0) = false := decide_eq_false h1
      have E := Lib.hid (sgd_mixed3 h1 h2)
      go_enter Tryd.func12, Tryd.ntmps12
      go_wp2_with fail
      refine (rwhole _ _ ha).mono ?_; rintro e w' ⟨rfl, rfl⟩
      go_wp2_with fail
      refine (rwhole _ _ hb).mono ?_; rintro e w' ⟨rfl, rfl⟩
      go_wp2_with fail
      refine (rsigned _ _ _ (by omega) (by omega)).mono ?_
      rw [E.out]
      rintro e w1 ⟨rfl, hb1⟩
      obtain ⟨hc, hf⟩ := bcell hb1
      go_wp2
      refine bodyPost_ret (v := .agg #[.int .i64 (fitN (a + b)), .bool (fitB (a + b))]) (by simp [results, Tryd.results12, go_sem, hc]) rfl ⟨rfl, ?_⟩
      exact ((below_of hb1).setCell (Nat.le_refl _) _).setCell (Nat.le_refl _) _
    · have d1 : decide (a < 0) = false := decide_eq_false h1
      have E := Lib.hid (sgd_mixed3 h1 h2)
      have h4 : siz b ≤ siz a := by omega
      have h5 : ¬ siz b < siz a := by omega
      clear h3
      go_enter Tryd.func12, Tryd.ntmps12
      go_wp2_with fail
      refine (rwhole _ _ ha).mono ?_; rintro e w' ⟨rfl, rfl⟩
      go_wp2_with fail
      refine (rwhole _ _ hb).mono ?_; rintro e w' ⟨rfl, rfl⟩
      go_wp2_with fail
      refine (rsigned _ _ _ (by omega) (by omega)).mono ?_
      rw [E.out]
      rintro e w1 ⟨rfl, hb1⟩
      obtain ⟨hc, hf⟩ := bcell hb1
      go_wp2
      refine bodyPost_ret (v := .agg #[.int .i64 (fitN (a + b)), .bool (fitB (a + b))]) (by simp [results, Tryd.results12, go_sem, hc]) rfl ⟨rfl, ?_⟩
      exact ((below_of hb1).setCell (Nat.le_refl _) _).setCell (Nat.le_refl _) _
    · have d1 : decide (a < 0) = false := decide_eq_false h1
      have E := Lib.hid (sgd_mixed4 h1 h2)
      go_enter Tryd.func12, Tryd.ntmps12
      go_wp2_with fail
      refine (rwhole _ _ ha).mono ?_; rintro e w' ⟨rfl, rfl⟩
      go_wp2_with fail
      refine (rwhole _ _ hb).mono ?_; rintro e w' ⟨rfl, rfl⟩
      go_wp2_with fail
      refine (rsigned _ _ _ (by omega) (by omega)).mono ?_
      rw [E.out]
      rintro e w1 ⟨rfl, hb1⟩
      obtain ⟨hc, hf⟩ := bcell hb1
      go_wp2
      refine bodyPost_ret (v := .agg #[.int .i64 (fitN (a + b)), .bool (fitB (a + b))]) (by simp [results, Tryd.results12, go_sem, hc]) rfl ⟨rfl, ?_⟩
      exact ((below_of hb1).setCell (Nat.le_refl _) _).setCell (Nat.le_refl _) _

theorem radd (a b : Int) (w : World) (ha : I64 a) (hb : I64 b) :
    Calls Tryd.prog 12 #[.int .i64 a, .int .i64 b] w fun e w' => e = .returned (.agg #[.int .i64 (fitN (a + b)), .bool (fitB (a + b))]) ∧ Below w.heap.size w w' := by
  by_cases h1 : a < 0 <;> by_cases h2 : b < 0
  · exact radd_same a b w ha hb (Or.inl ⟨h1, h2⟩)
  · exact radd_mixed a b w ha hb (Or.inl ⟨h1, h2⟩)
  · exact radd_mixed a b w ha hb (Or.inr ⟨h1, h2⟩)
  · exact radd_same a b w ha hb (Or.inr ⟨h1, h2⟩)
end Go.Proofs.YtkfgcnomojopdaaDoor.NumC
