/-
  Arguments as the statements of the graph are handed them: steps, rows of cells, one step, one cell.
-/
import Derived.Test.YtakamedgdiffbaaDoorPNoneGraphG
import Derived.Test.YtakamedgdiffbaaDoorPNoneRowsO
import Derived.Test.YtakamedgdiffbaaDoorPNoneGraphA
import Derived.Test.YtakamedgdiffbaaDoorPNoneRowsA
import Derived.Laws.OwnMore
import Derived.Deep.RegionHeld3
namespace Go.Proofs.YtakamedgdiffbaaDoor.GraphC
set_option linter.unusedVariables false
open Go.ChangeShapes Go.WideShapes Go.ChangeAt Go.RowKit Go.Proofs.YtakamedgdiffbaaDoor.NumC Go.Proofs.YtakamedgdiffbaaDoor.RowsC
open Go.Proofs.YtakamedgdiffbaaDoor.RefsC (Rc RAt hitsL putL)
section
variable {H : Type} {enc : TypeId × Value → H} {w : World} {base : Nat} {spare : Nat → Bool} {held : Bool} {r : Reach} {b0 : Nat} {v : Value} {d : DataW H} {p : List MemPlace}
theorem pt_trod {fuel : Nat} {cs : List Value} {x : DataW H × List MemPlace} (h : DataW.trod enc Tryd.prog w base spare held fuel 24 cs = some x) : ∃ a : Pt, cs[0]? = some (.int .i64 a.r) ∧ cs[1]? = some (.int .i64 a.c) := by
  obtain ⟨y0, n0, h0⟩ := struct_sub (e := 3) (o := 0) (c := 1) (i := 0) Tryd.underlying24 h ⟨_, rfl, rfl, rfl⟩ (by kernel_rfl)
  obtain ⟨y1, n1, h1⟩ := struct_sub (e := 3) (o := 1) (c := 1) (i := 1) Tryd.underlying24 h ⟨_, rfl, rfl, rfl⟩ (by kernel_rfl)
  obtain ⟨a, ha, -⟩ := cell_int Tryd.underlying3 h0
  obtain ⟨b, hb, -⟩ := cell_int Tryd.underlying3 h1
  exact ⟨⟨a, b⟩, ha, hb⟩
theorem rc_trod {fuel : Nat} {cs : List Value} {x : DataW H × List MemPlace} (h : DataW.trod enc Tryd.prog w base spare held fuel 44 cs = some x) :
    ∃ y : Rc, cs[0]? = some (.int .i64 y.a) ∧ cs[1]? = some (.int .i64 y.b) ∧ cs[2]? = some (.int .i64 y.c) ∧ cs[3]? = some (.int .i64 y.d) := by
  obtain ⟨y0, n0, h0⟩ := struct_sub (e := 24) (o := 0) (c := 2) (i := 0) Tryd.underlying44 h ⟨_, rfl, rfl, rfl⟩ (by kernel_rfl)
  obtain ⟨y1, n1, h1⟩ := struct_sub (e := 24) (o := 2) (c := 2) (i := 1) Tryd.underlying44 h ⟨_, rfl, rfl, rfl⟩ (by kernel_rfl)
  obtain ⟨a, ha, hb⟩ := pt_trod h0
  obtain ⟨c, hc, he⟩ := pt_trod h1
  exact ⟨⟨a.r, a.c, c.r, c.c⟩, sub_cell ha, sub_cell hb, sub_cell hc, sub_cell he⟩
theorem fR_of {cs : List Value} {a : Rc} (h0 : cs[0]? = some (.int .i64 a.a)) (h1 : cs[1]? = some (.int .i64 a.b)) (h2 : cs[2]? = some (.int .i64 a.c)) (h3 : cs[3]? = some (.int .i64 a.d)) : ∀ (j : Nat) (u : Value), (fR a)[j]? = some u → cs[j]? = some u
  | 0, _, hj => by cases hj; exact h0
  | 1, _, hj => by cases hj; exact h1
  | 2, _, hj => by cases hj; exact h2
  | 3, _, hj => by cases hj; exact h3
  | j + 4, _, hj => by cases hj
theorem rects_trod {fuel : Nat} {cs : List Value} {x : DataW H × List MemPlace} (h : DataW.trod enc Tryd.prog w base spare held fuel 31 cs = some x) :
    ∃ (l : List Rc) (A : Option Addr) (c : Nat), cs = [.slice A l.length c] ∧ RAt w w.heap.size l A := by
  obtain ⟨l, A, c, e, hr, -, -⟩ := trod_row (Q := fun _ => True) kindR.row kindR.under (by kernel_rfl) (fun fuel cs x h => by
    obtain ⟨y, h0, h1, h2, h3⟩ := rc_trod h
    exact ⟨y, trivial, fR_of h0 h1 h2 h3⟩) h
  exact ⟨l, A, c, e, reads_rat hr⟩
def StepQ (w : World) (t : Tp) (x : Pt × List Rc) : Prop := x.1 = ⟨t.r, t.c⟩ ∧ t.n = x.2.length ∧ RAt w w.heap.size x.2 t.A
theorem step_trod {fuel : Nat} {cs : List Value} {x : DataW H × List MemPlace} (h : DataW.trod enc Tryd.prog w base spare held fuel 33 cs = some x) :
    ∃ t : Tp, (∃ z, StepQ w t z) ∧ cs[0]? = some (.int .i64 t.r) ∧ cs[1]? = some (.int .i64 t.c) ∧ cs[2]? = some (.slice t.A t.n t.k) := by
  obtain ⟨y0, n0, h0⟩ := struct_sub (e := 24) (o := 0) (c := 2) (i := 0) Tryd.underlying33 h ⟨_, rfl, rfl, rfl⟩ (by kernel_rfl)
  obtain ⟨y1, n1, h1⟩ := struct_sub (e := 31) (o := 2) (c := 1) (i := 1) Tryd.underlying33 h ⟨_, rfl, rfl, rfl⟩ (by kernel_rfl)
  obtain ⟨a, ha, hb⟩ := pt_trod h0
  obtain ⟨l, A, c, e, hr⟩ := rects_trod h1
  have h2 : ((cs.drop 2).take 1)[0]? = some (.slice A l.length c) := by rw [e]; rfl
  exact ⟨⟨a.r, a.c, A, l.length, c⟩, ⟨(⟨a.r, a.c⟩, l), rfl, rfl, hr⟩, sub_cell ha, sub_cell hb, sub_cell h2⟩
set_option maxRecDepth 100000 in
theorem open_step (hv : Value.okWide Tryd.prog w r b0 33 v) (h : DataW.Trod enc Tryd.prog w base spare held 33 v d p) : ∃ t : Tp, v = .agg #[.int .i64 t.r, .int .i64 t.c, .slice t.A t.n t.k] := by
  obtain ⟨cs, y, m, rfl, hs, hf⟩ := open_struct Tryd.underlying33 (show Tryd.prog.cellsOf 33 = 3 by kernel_rfl) hv h
  obtain ⟨c0, c1, c2, rfl⟩ := Joins.array3 hs
  obtain ⟨t, -, h0, h1, h2⟩ := step_trod hf
  simp at h0 h1 h2
  subst h0 h1 h2
  exact ⟨t, rfl⟩
end
end Go.Proofs.YtakamedgdiffbaaDoor.GraphC
