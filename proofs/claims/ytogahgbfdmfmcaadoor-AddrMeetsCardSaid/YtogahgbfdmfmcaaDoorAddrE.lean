/-
  Contracts of package addr and of its reference: Made. Nothing is assumed but that the arguments are numbers of their kinds.
-/
import Derived.Test.YtogahgbfdmfmcaaDoorAddrB
namespace Go.Proofs.YtogahgbfdmfmcaaDoor.AddrC
set_option linter.unusedVariables false
open Go.RowKit Go.Proofs.YtogahgbfdmfmcaaDoor.NumC

def madeB (a b c d : Int) : Bool := decide (Cell a b ∧ Cell c d)
/-- The lesser, the greater one. -/
def lo (x y : Int) : Int := if y < x then y else x
def hi (x y : Int) : Int := if x < y then y else x
def pick0 (b : Bool) (n : Int) : Int := if b then n else 0
/-- The least rectangle that has two cells. -/
def mA (a b c d : Int) : Int := pick0 (madeB a b c d) (lo a c)
def mB (a b c d : Int) : Int := pick0 (madeB a b c d) (lo b d)
def mC (a b c d : Int) : Int := pick0 (madeB a b c d) (hi a c)
def mD (a b c d : Int) : Int := pick0 (madeB a b c d) (hi b d)
theorem m_t {a b c d : Int} (h : madeB a b c d = true) : mA a b c d = lo a c ∧ mB a b c d = lo b d ∧ mC a b c d = hi a c ∧ mD a b c d = hi b d := by
  unfold mA mB mC mD; rw [h]; exact ⟨rfl, rfl, rfl, rfl⟩
theorem m_f {a b c d : Int} (h : madeB a b c d = false) : mA a b c d = 0 ∧ mB a b c d = 0 ∧ mC a b c d = 0 ∧ mD a b c d = 0 := by
  unfold mA mB mC mD; rw [h]; exact ⟨rfl, rfl, rfl, rfl⟩

set_option maxHeartbeats 1000000 in
theorem made (a b c d : Int) (w : World) :
    Calls Tryd.prog 17 #[.agg #[.int .i64 a, .int .i64 b], .agg #[.int .i64 c, .int .i64 d]] w fun e w' => e = .returned (.tuple #[.agg #[.int .i64 (mA a b c d), .int .i64 (mB a b c d), .int .i64 (mC a b c d), .int .i64 (mD a b c d)], .bool (madeB a b c d)]) ∧ Below w.heap.size w w' := by
  have l1 : (if c < a then c else a) = lo a c := rfl
  have l2 : (if d < b then d else b) = lo b d := rfl
  have l3 : (if a < c then c else a) = hi a c := rfl
  have l4 : (if b < d then d else b) = hi b d := rfl
  by_cases h1 : Cell a b
  · have G1 := Lib.hid (cellB_t h1)
    by_cases h2 : Cell c d
    · have G2 := Lib.hid (cellB_t h2)
      have hm : madeB a b c d = true := decide_eq_true ⟨h1, h2⟩
      have E := Lib.hid hm; have V := Lib.hid (m_t hm)
      clear h1 h2 hm
      rw [E.out, V.out.1, V.out.2.1, V.out.2.2.1, V.out.2.2.2]
      go_enter Tryd.func17, Tryd.ntmps17
      go_wp2_with fail
      refine (good _ _ _).mono ?_; rw [G1.out]; rintro e w1 ⟨rfl, hb1⟩
      obtain ⟨hc, hf⟩ := bcell hb1
      have hz := hb1.size
      go_wp2_with fail
      refine (good _ _ _).mono ?_; rw [G2.out]; rintro e w2 ⟨rfl, hb2⟩
      have hb3 := hb1.trans (hb2.mono hb1.size)
      clear hc hf hz
      obtain ⟨hc, hf⟩ := bcell hb3
      have hz : w.heap.size + 2 < w2.heap.size := by have := hb3.size; simp at this; omega
      have hB := below_of (below_of (below_of hb3))
      go_wp2
      refine bodyPost_ret (v := (.tuple #[.agg #[.int .i64 (lo a c), .int .i64 (lo b d), .int .i64 (hi a c), .int .i64 (hi b d)], .bool true])) (by simp [results, Tryd.results17, go_sem, hc]) rfl ⟨rfl, ?_⟩
      repeat (first | with_reducible exact hB | with_reducible refine Below.setCell ?_ (by simp <;> omega) _ | with_reducible refine Below.alloc ?_ (by simp <;> omega) _)
    · have G2 := Lib.hid (cellB_f h2)
      have hm : madeB a b c d = false := decide_eq_false fun h => h2 h.2
      have E := Lib.hid hm; have V := Lib.hid (m_f hm)
      clear h1 h2 hm
      rw [E.out, V.out.1, V.out.2.1, V.out.2.2.1, V.out.2.2.2]
      go_enter Tryd.func17, Tryd.ntmps17
      go_wp2_with fail
      refine (good _ _ _).mono ?_; rw [G1.out]; rintro e w1 ⟨rfl, hb1⟩
      obtain ⟨hc, hf⟩ := bcell hb1
      have hz := hb1.size
      go_wp2_with fail
      refine (good _ _ _).mono ?_; rw [G2.out]; rintro e w2 ⟨rfl, hb2⟩
      have hb3 := hb1.trans (hb2.mono hb1.size)
      clear hc hf hz
      obtain ⟨hc, hf⟩ := bcell hb3
      have hz : w.heap.size + 2 < w2.heap.size := by have := hb3.size; simp at this; omega
      have hB := below_of (below_of (below_of hb3))
      go_wp2
      refine bodyPost_ret (v := (.tuple #[.agg #[.int .i64 0, .int .i64 0, .int .i64 0, .int .i64 0], .bool false])) (by simp [results, Tryd.results17, go_sem, hc]) rfl ⟨rfl, ?_⟩
      repeat (first | with_reducible exact hB | with_reducible refine Below.setCell ?_ (by simp <;> omega) _ | with_reducible refine Below.alloc ?_ (by simp <;> omega) _)
  · have G1 := Lib.hid (cellB_f h1)
    have hm : madeB a b c d = false := decide_eq_false fun h => h1 h.1
    have E := Lib.hid hm; have V := Lib.hid (m_f hm)
    clear h1 hm
    rw [E.out, V.out.1, V.out.2.1, V.out.2.2.1, V.out.2.2.2]
    go_enter Tryd.func17, Tryd.ntmps17
    go_wp2_with fail
    refine (good _ _ _).mono ?_; rw [G1.out]; rintro e w1 ⟨rfl, hb1⟩
    obtain ⟨hc, hf⟩ := bcell hb1
    have hz : w.heap.size + 2 < w1.heap.size := by have := hb1.size; simp at this; omega
    have hB := below_of (below_of (below_of hb1))
    go_wp2
    refine bodyPost_ret (v := (.tuple #[.agg #[.int .i64 0, .int .i64 0, .int .i64 0, .int .i64 0], .bool false])) (by simp [results, Tryd.results17, go_sem, hc]) rfl ⟨rfl, ?_⟩
    repeat (first | with_reducible exact hB | with_reducible refine Below.setCell ?_ (by simp <;> omega) _ | with_reducible refine Below.alloc ?_ (by simp <;> omega) _)

set_option maxHeartbeats 1000000 in
theorem rmade (a b c d : Int) (w : World) :
    Calls Tryd.prog 18 #[.agg #[.int .i64 a, .int .i64 b], .agg #[.int .i64 c, .int .i64 d]] w fun e w' => e = .returned (.agg #[.int .i64 (mA a b c d), .int .i64 (mB a b c d), .int .i64 (mC a b c d), .int .i64 (mD a b c d), .bool (madeB a b c d)]) ∧ Below w.heap.size w w' := by
  have l1 : (if c < a then c else a) = lo a c := rfl
  have l2 : (if d < b then d else b) = lo b d := rfl
  have l3 : (if a < c then c else a) = hi a c := rfl
  have l4 : (if b < d then d else b) = hi b d := rfl
  by_cases h1 : Cell a b
  · have G1 := Lib.hid (cellB_t h1)
    by_cases h2 : Cell c d
    · have G2 := Lib.hid (cellB_t h2)
      have hm : madeB a b c d = true := decide_eq_true ⟨h1, h2⟩
      have E := Lib.hid hm; have V := Lib.hid (m_t hm)
      clear h1 h2 hm
      rw [E.out, V.out.1, V.out.2.1, V.out.2.2.1, V.out.2.2.2]
      go_enter Tryd.func18, Tryd.ntmps18
      go_wp2_with fail
      refine (rgood _ _ _).mono ?_; rw [G1.out]; rintro e w1 ⟨rfl, hb1⟩
      obtain ⟨hc, hf⟩ := bcell hb1
      have hz := hb1.size
      go_wp2_with fail
      refine (rgood _ _ _).mono ?_; rw [G2.out]; rintro e w2 ⟨rfl, hb2⟩
      have hb3 := hb1.trans (hb2.mono hb1.size)
      clear hc hf hz
      obtain ⟨hc, hf⟩ := bcell hb3
      have hz : w.heap.size + 2 < w2.heap.size := by have := hb3.size; simp at this; omega
      have hB := below_of (below_of (below_of hb3))
      go_wp2
      refine bodyPost_ret (v := (.agg #[.int .i64 (lo a c), .int .i64 (lo b d), .int .i64 (hi a c), .int .i64 (hi b d), .bool true])) (by simp [results, Tryd.results18, go_sem, hc]) rfl ⟨rfl, ?_⟩
      repeat (first | with_reducible exact hB | with_reducible refine Below.setCell ?_ (by simp <;> omega) _ | with_reducible refine Below.alloc ?_ (by simp <;> omega) _)
    · have G2 := Lib.hid (cellB_f h2)
      have hm : madeB a b c d = false := decide_eq_false fun h => h2 h.2
      have E := Lib.hid hm; have V := Lib.hid (m_f hm)
      clear h1 h2 hm
      rw [E.out, V.out.1, V.out.2.1, V.out.2.2.1, V.out.2.2.2]
      go_enter Tryd.func18, Tryd.ntmps18
      go_wp2_with fail
      refine (rgood _ _ _).mono ?_; rw [G1.out]; rintro e w1 ⟨rfl, hb1⟩
      obtain ⟨hc, hf⟩ := bcell hb1
      have hz := hb1.size
      go_wp2_with fail
      refine (rgood _ _ _).mono ?_; rw [G2.out]; rintro e w2 ⟨rfl, hb2⟩
      have hb3 := hb1.trans (hb2.mono hb1.size)
      clear hc hf hz
      obtain ⟨hc, hf⟩ := bcell hb3
      have hz : w.heap.size + 2 < w2.heap.size := by have := hb3.size; simp at this; omega
      have hB := below_of (below_of (below_of hb3))
      go_wp2
      refine bodyPost_ret (v := (.agg #[.int .i64 0, .int .i64 0, .int .i64 0, .int .i64 0, .bool false])) (by simp [results, Tryd.results18, go_sem, hc]) rfl ⟨rfl, ?_⟩
      repeat (first | with_reducible exact hB | with_reducible refine Below.setCell ?_ (by simp <;> omega) _ | with_reducible refine Below.alloc ?_ (by simp <;> omega) _)
  · have G1 := Lib.hid (cellB_f h1)
    have hm : madeB a b c d = false := decide_eq_false fun h => h1 h.1
    have E := Lib.hid hm; have V := Lib.hid (m_f hm)
    clear h1 hm
    rw [E.out, V.out.1, V.out.2.1, V.out.2.2.1, V.out.2.2.2]
    go_enter Tryd.func18, Tryd.ntmps18
    go_wp2_with fail
    refine (rgood _ _ _).mono ?_; rw [G1.out]; rintro e w1 ⟨rfl, hb1⟩
    obtain ⟨hc, hf⟩ := bcell hb1
    have hz : w.heap.size + 2 < w1.heap.size := by have := hb1.size; simp at this; omega
    have hB := below_of (below_of (below_of hb1))
    go_wp2
    refine bodyPost_ret (v := (.agg #[.int .i64 0, .int .i64 0, .int .i64 0, .int .i64 0, .bool false])) (by simp [results, Tryd.results18, go_sem, hc]) rfl ⟨rfl, ?_⟩
    repeat (first | with_reducible exact hB | with_reducible refine Below.setCell ?_ (by simp <;> omega) _ | with_reducible refine Below.alloc ?_ (by simp <;> omega) _)
end Go.Proofs.YtogahgbfdmfmcaaDoor.AddrC
