/-
  Arguments as the statements of the graph are handed them: steps, rows of cells, one step, one cell.
-/
import Derived.Test.YtakamedgdiffbaaGreatDoorPPlaysGraphG
import Derived.Test.YtakamedgdiffbaaGreatDoorPPlaysRowsO
import Derived.Test.YtakamedgdiffbaaGreatDoorPPlaysGraphE
namespace Go.Proofs.YtakamedgdiffbaaGreatDoor.GraphC
set_option linter.unusedVariables false
open Go.ChangeShapes Go.WideShapes Go.ChangeAt Go.RowKit Go.Proofs.YtakamedgdiffbaaGreatDoor.NumC Go.Proofs.YtakamedgdiffbaaGreatDoor.RowsC
open Go.Proofs.YtakamedgdiffbaaGreatDoor.RefsC (Rc RAt hitsL putL)
section
variable {H : Type} {enc : TypeId × Value → H} {w : World} {base : Nat} {spare : Nat → Bool} {held : Bool} {r : Reach} {b0 : Nat} {v : Value} {d : DataW H} {p : List MemPlace}
theorem pt_trod {fuel : Nat} {cs : List Value} {x : DataW H × List MemPlace} (h : DataW.trod enc Tryz.prog w base spare held fuel 35 cs = some x) : ∃ a : Pt, cs[0]? = some (.int .i64 a.r) ∧ cs[1]? = some (.int .i64 a.c) := by
  obtain ⟨y0, n0, h0⟩ := struct_sub (e := 3) (o := 0) (c := 1) (i := 0) Tryz.underlying35 h ⟨_, rfl, rfl, rfl⟩ (by kernel_rfl)
  obtain ⟨y1, n1, h1⟩ := struct_sub (e := 3) (o := 1) (c := 1) (i := 1) Tryz.underlying35 h ⟨_, rfl, rfl, rfl⟩ (by kernel_rfl)
  obtain ⟨a, ha, -⟩ := cell_int Tryz.underlying3 h0
  obtain ⟨b, hb, -⟩ := cell_int Tryz.underlying3 h1
  exact ⟨⟨a, b⟩, ha, hb⟩
theorem rc_trod {fuel : Nat} {cs : List Value} {x : DataW H × List MemPlace} (h : DataW.trod enc Tryz.prog w base spare held fuel 51 cs = some x) :
    ∃ y : Rc, cs[0]? = some (.int .i64 y.a) ∧ cs[1]? = some (.int .i64 y.b) ∧ cs[2]? = some (.int .i64 y.c) ∧ cs[3]? = some (.int .i64 y.d) := by
  obtain ⟨y0, n0, h0⟩ := struct_sub (e := 35) (o := 0) (c := 2) (i := 0) Tryz.underlying51 h ⟨_, rfl, rfl, rfl⟩ (by kernel_rfl)
  obtain ⟨y1, n1, h1⟩ := struct_sub (e := 35) (o := 2) (c := 2) (i := 1) Tryz.underlying51 h ⟨_, rfl, rfl, rfl⟩ (by kernel_rfl)
  obtain ⟨a, ha, hb⟩ := pt_trod h0
  obtain ⟨c, hc, he⟩ := pt_trod h1
  exact ⟨⟨a.r, a.c, c.r, c.c⟩, sub_cell ha, sub_cell hb, sub_cell hc, sub_cell he⟩
theorem fP_of {cs : List Value} {a : Pt} (h0 : cs[0]? = some (.int .i64 a.r)) (h1 : cs[1]? = some (.int .i64 a.c)) : ∀ (j : Nat) (u : Value), (fP a)[j]? = some u → cs[j]? = some u
  | 0, _, hj => by cases hj; exact h0
  | 1, _, hj => by cases hj; exact h1
  | j + 2, _, hj => by cases hj
theorem fR_of {cs : List Value} {a : Rc} (h0 : cs[0]? = some (.int .i64 a.a)) (h1 : cs[1]? = some (.int .i64 a.b)) (h2 : cs[2]? = some (.int .i64 a.c)) (h3 : cs[3]? = some (.int .i64 a.d)) : ∀ (j : Nat) (u : Value), (fR a)[j]? = some u → cs[j]? = some u
  | 0, _, hj => by cases hj; exact h0
  | 1, _, hj => by cases hj; exact h1
  | 2, _, hj => by cases hj; exact h2
  | 3, _, hj => by cases hj; exact h3
  | j + 4, _, hj => by cases hj
theorem fT_of {cs : List Value} {t : Tp} (h0 : cs[0]? = some (.int .i64 t.r)) (h1 : cs[1]? = some (.int .i64 t.c)) (h2 : cs[2]? = some (.slice t.A t.n t.k)) : ∀ (j : Nat) (u : Value), (fT t)[j]? = some u → cs[j]? = some u
  | 0, _, hj => by cases hj; exact h0
  | 1, _, hj => by cases hj; exact h1
  | 2, _, hj => by cases hj; exact h2
  | j + 3, _, hj => by cases hj
theorem rects_trod {fuel : Nat} {cs : List Value} {x : DataW H × List MemPlace} (h : DataW.trod enc Tryz.prog w base spare held fuel 36 cs = some x) :
    ∃ (l : List Rc) (A : Option Addr) (c : Nat), cs = [.slice A l.length c] ∧ RAt w w.heap.size l A := by
  obtain ⟨l, A, c, e, hr, -, -⟩ := trod_row (Q := fun _ => True) kindR.row kindR.under (by kernel_rfl) (fun fuel cs x h => by
    obtain ⟨y, h0, h1, h2, h3⟩ := rc_trod h
    exact ⟨y, trivial, fR_of h0 h1 h2 h3⟩) h
  exact ⟨l, A, c, e, reads_rat hr⟩
def StepQ (w : World) (t : Tp) (x : Pt × List Rc) : Prop := x.1 = ⟨t.r, t.c⟩ ∧ t.n = x.2.length ∧ RAt w w.heap.size x.2 t.A
theorem step_trod {fuel : Nat} {cs : List Value} {x : DataW H × List MemPlace} (h : DataW.trod enc Tryz.prog w base spare held fuel 38 cs = some x) :
    ∃ t : Tp, (∃ z, StepQ w t z) ∧ cs[0]? = some (.int .i64 t.r) ∧ cs[1]? = some (.int .i64 t.c) ∧ cs[2]? = some (.slice t.A t.n t.k) := by
  obtain ⟨y0, n0, h0⟩ := struct_sub (e := 35) (o := 0) (c := 2) (i := 0) Tryz.underlying38 h ⟨_, rfl, rfl, rfl⟩ (by kernel_rfl)
  obtain ⟨y1, n1, h1⟩ := struct_sub (e := 36) (o := 2) (c := 1) (i := 1) Tryz.underlying38 h ⟨_, rfl, rfl, rfl⟩ (by kernel_rfl)
  obtain ⟨a, ha, hb⟩ := pt_trod h0
  obtain ⟨l, A, c, e, hr⟩ := rects_trod h1
  have h2 : ((cs.drop 2).take 1)[0]? = some (.slice A l.length c) := by rw [e]; rfl
  exact ⟨⟨a.r, a.c, A, l.length, c⟩, ⟨(⟨a.r, a.c⟩, l), rfl, rfl, hr⟩, sub_cell ha, sub_cell hb, sub_cell h2⟩
theorem rowT3 : RowK fT 3 := ⟨fun _ => rfl, fun x u hu => by
    simp only [fT, List.mem_cons, List.not_mem_nil, or_false] at hu
    rcases hu with rfl | rfl | rfl <;> rfl, by decide⟩
theorem kindT13 : Tryz.prog.underlying 22 = some (.slice 38) := Tryz.underlying22
set_option maxRecDepth 100000 in
theorem open_steps (hv : Value.okWide Tryz.prog w r b0 22 v) (h : DataW.Trod enc Tryz.prog w base spare held 22 v d p) :
    ∃ (ts : List Tp) (L : Gl) (A : Option Addr) (c : Nat), v = .slice A L.length c ∧ L.length ≤ 9223372036854775807 ∧ StepsAt w w.heap.size ts L A := by
  obtain ⟨ts, A, c, e, hr, hq, hl⟩ := open_row (Q := fun t => ∃ z, StepQ w t z) rowT3 kindT13 (by kernel_rfl) (fun fuel cs x h => by
    obtain ⟨t, hz, h0, h1, h2⟩ := step_trod h
    exact ⟨t, hz, fT_of h0 h1 h2⟩) hv h
  obtain ⟨L, hL, hx⟩ := beside (R := StepQ w) ts hq
  exact ⟨ts, L, A, c, by rw [e, hL], by rw [hL]; exact hl, hr, hL.symm, hx⟩
set_option maxRecDepth 100000 in
theorem open_addrs (hv : Value.okWide Tryz.prog w r b0 23 v) (h : DataW.Trod enc Tryz.prog w base spare held 23 v d p) :
    ∃ (l : List Pt) (A : Option Addr) (c : Nat), v = .slice A l.length c ∧ Reads fP 2 w w.heap.size l A := by
  obtain ⟨l, A, c, e, hr, -, -⟩ := open_row (Q := fun _ => True) kindP.row kindP.under (by kernel_rfl) (fun fuel cs x h => by
    obtain ⟨a, h0, h1⟩ := pt_trod h
    exact ⟨a, trivial, fP_of h0 h1⟩) hv h
  exact ⟨l, A, c, e, hr⟩
end
end Go.Proofs.YtakamedgdiffbaaGreatDoor.GraphC
