/-
  Rows of cells of the grid in memory; contracts: whether rectangles have one of them, whether a row has a cell, whether two rows are alike.
-/
import Derived.Test.YtakamedgdiffbaaDoorPNoneRowsA
import Derived.Test.YtakamedgdiffbaaDoorPNoneGraphM
import Derived.Test.YtakamedgdiffbaaDoorPNoneRefsM
import Derived.Test.YtakamedgdiffbaaDoorPNoneTreeZ2
import Derived.Test.YtakamedgdiffbaaDoorPNoneAddrA
namespace Go.Proofs.YtakamedgdiffbaaDoor.GraphC
set_option linter.unusedVariables false
open Go.RowKit Go.Proofs.YtakamedgdiffbaaDoor.NumC Go.Proofs.YtakamedgdiffbaaDoor.RowsC
open Go.Proofs.YtakamedgdiffbaaDoor.RefsC (Rc RAt hitsL)
open Go.Proofs.YtakamedgdiffbaaDoor.TreeC (eq_addr)
structure Pt where
  r : Int
  c : Int
  deriving DecidableEq
def fP (a : Pt) : List Value := [.int .i64 a.r, .int .i64 a.c]
def hitP (e : List Rc) (a : Pt) : Bool := hitsL e a.r a.c
theorem kindP : Kind fP 2 34 24 where
  row := ⟨fun _ => rfl, fun x u hu => by
    simp only [fP, List.mem_cons, List.not_mem_nil, or_false] at hu
    rcases hu with rfl | rfl <;> rfl, by decide⟩
  under := Tryd.underlying34
  info := ⟨.agg #[.int .i64 0, .int .i64 0], 16, by kernel_rfl, rfl, by decide⟩
theorem Reads.pt {w : World} {B : Nat} {l : List Pt} {A : Option Addr} (h : Reads fP 2 w B l A) (i : Nat) (x : Pt) (hx : l[i]? = some x) :
    ∃ g o, A = some ⟨g, o, none⟩ ∧ g < B ∧ w.cell? ⟨g, o + i * 2, none⟩ = some (.int .i64 x.r) ∧ w.cell? ⟨g, o + i * 2 + 1, none⟩ = some (.int .i64 x.c) := by
  obtain ⟨g, o, e, hg, h⟩ := h.nth i x hx
  exact ⟨g, o, e, hg, h 0 _ rfl, h 1 _ rfl⟩
theorem pt_eq {x y : Pt} : (x.r = y.r ∧ x.c = y.c) ↔ x = y := by
  constructor
  · obtain ⟨a, b⟩ := x; obtain ⟨a', b'⟩ := y
    rintro ⟨h1, h2⟩
    simp only at h1 h2
    rw [h1, h2]
  · rintro rfl; exact ⟨rfl, rfl⟩
theorem eqP (x y : Pt) (W : World) : (binOp .eql 24 (.agg #[.int .i64 x.r, .int .i64 x.c]) (.agg #[.int .i64 y.r, .int .i64 y.c])).run Tryd.prog W = .ok (.bool (decide (x = y))) W := by
  have h := eq_addr x.r x.c y.r y.c W
  rw [show decide (x.r = y.r ∧ x.c = y.c) = decide (x = y) from decide_eq_decide.2 pt_eq] at h
  exact h
end Go.Proofs.YtakamedgdiffbaaDoor.GraphC
namespace Go.Proofs.YtakamedgdiffbaaDoor.GraphC
set_option linter.unusedVariables false
open Go.RowKit Go.Proofs.YtakamedgdiffbaaDoor.NumC Go.Proofs.YtakamedgdiffbaaDoor.RowsC
open Go.Proofs.YtakamedgdiffbaaDoor.RefsC (Rc RAt hitsL)
abbrev Gl := List (Pt × List Rc)
structure Tp where
  r : Int
  c : Int
  A : Option Addr
  n : Nat
  k : Nat
def Bnd (G : Gl) : Prop := G.length ≤ 1000 ∧ ∀ x, x ∈ G → x.2.length ≤ 1000
def CellsPost (l : List Pt) (w : World) (e : Ending) (w' : World) : Prop := ∃ v, e = .returned v ∧ Owns fP 2 24 w' w.heap.size v l ∧ Below w.heap.size w w'
end Go.Proofs.YtakamedgdiffbaaDoor.GraphC
namespace Go.Proofs.YtakamedgdiffbaaDoor.GraphC
set_option linter.unusedVariables false
open Go.RowKit Go.Proofs.YtakamedgdiffbaaDoor.NumC Go.Proofs.YtakamedgdiffbaaDoor.RowsC
open Go.Proofs.YtakamedgdiffbaaDoor.RefsC (Rc RAt hitsL)
def EdgesPost (l : List Rc) (w : World) (e : Ending) (w' : World) : Prop := ∃ A c, e = .returned (.slice A l.length c) ∧ RAt w' w'.heap.size l A ∧ Below w.heap.size w w'
end Go.Proofs.YtakamedgdiffbaaDoor.GraphC
