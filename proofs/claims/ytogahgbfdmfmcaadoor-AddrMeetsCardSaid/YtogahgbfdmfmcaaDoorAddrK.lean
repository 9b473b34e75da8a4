/-
  What the rows give the walks: a cell, a rectangle, by value, opened to their numbers.
-/
import Derived.Test.YtogahgbfdmfmcaaDoorNumO
import Derived.Test.YtogahgbfdmfmcaaDoorNumK
namespace Go.Proofs.YtogahgbfdmfmcaaDoor.AddrC
set_option linter.unusedVariables false
open Go.ChangeShapes Go.WideShapes Go.ChangeAt Go.RowKit Go.Proofs.YtogahgbfdmfmcaaDoor.NumC

theorem laidOut : laidOutB Tryd.prog = true := by kernel_rfl
theorem cellsInt : Tryd.prog.cellsOf 3 = 1 := by kernel_rfl
theorem cellsAddr : Tryd.prog.cellsOf 23 = 2 := by kernel_rfl
theorem cellsRect : Tryd.prog.cellsOf 35 = 4 := by kernel_rfl
section
variable {H : Type} {enc : TypeId × Value → H} {w : World} {base : Nat} {spare : Nat → Bool} {held : Bool} {fuel : Nat} {r : Reach} {b0 : Nat} {v : Value} {d : DataW H} {p : List MemPlace}

theorem addr_cells {cs : List Value} {x : DataW H × List MemPlace} (h : DataW.trod enc Tryd.prog w base spare held fuel 23 cs = some x) :
    ∃ a b, cs[0]? = some (.int .i64 a) ∧ cs[1]? = some (.int .i64 b) ∧ (Lit.int .i64 a).wf = true ∧ (Lit.int .i64 b).wf = true := by
  obtain ⟨y0, n0, h0⟩ := struct_sub (i := 0) Tryd.underlying23 h ⟨_, rfl, rfl, rfl⟩ cellsInt
  obtain ⟨y1, n1, h1⟩ := struct_sub (i := 1) Tryd.underlying23 h ⟨_, rfl, rfl, rfl⟩ cellsInt
  obtain ⟨a, ha, wa⟩ := cell_int Tryd.underlying3 h0
  obtain ⟨b, hb, wb⟩ := cell_int Tryd.underlying3 h1
  exact ⟨a, b, ha, hb, wa, wb⟩
set_option maxRecDepth 100000 in
theorem open_addr (hv : Value.okWide Tryd.prog w r b0 23 v) (h : DataW.Trod enc Tryd.prog w base spare held 23 v d p) :
    ∃ a b, v = .agg #[.int .i64 a, .int .i64 b] ∧ (Lit.int .i64 a).wf = true ∧ (Lit.int .i64 b).wf = true := by
  obtain ⟨cs, y, m, rfl, hs, hf⟩ := open_struct Tryd.underlying23 cellsAddr hv h
  obtain ⟨c0, c1, rfl⟩ := Joins.array2 hs
  obtain ⟨a, b, h0, h1, wa, wb⟩ := addr_cells hf
  simp at h0 h1
  subst h0 h1
  exact ⟨a, b, rfl, wa, wb⟩
set_option maxRecDepth 100000 in
theorem open_rect (hv : Value.okWide Tryd.prog w r b0 35 v) (h : DataW.Trod enc Tryd.prog w base spare held 35 v d p) :
    ∃ a b c e, v = .agg #[.int .i64 a, .int .i64 b, .int .i64 c, .int .i64 e] ∧ (Lit.int .i64 a).wf = true ∧ (Lit.int .i64 b).wf = true ∧ (Lit.int .i64 c).wf = true ∧ (Lit.int .i64 e).wf = true := by
  obtain ⟨cs, y, m, rfl, hs, hf⟩ := open_struct Tryd.underlying35 cellsRect hv h
  obtain ⟨c0, c1, c2, c3, rfl⟩ := Joins.array4 hs
  obtain ⟨y0, n0, g0⟩ := struct_sub (i := 0) Tryd.underlying35 hf ⟨_, rfl, rfl, rfl⟩ cellsAddr
  obtain ⟨y1, n1, g1⟩ := struct_sub (i := 1) Tryd.underlying35 hf ⟨_, rfl, rfl, rfl⟩ cellsAddr
  obtain ⟨a, b, h0, h1, wa, wb⟩ := addr_cells g0
  obtain ⟨c, e, h2, h3, wc, we⟩ := addr_cells g1
  simp at h0 h1 h2 h3
  subst h0 h1 h2 h3
  exact ⟨a, b, c, e, rfl, wa, wb, wc, we⟩
end
end Go.Proofs.YtogahgbfdmfmcaaDoor.AddrC
