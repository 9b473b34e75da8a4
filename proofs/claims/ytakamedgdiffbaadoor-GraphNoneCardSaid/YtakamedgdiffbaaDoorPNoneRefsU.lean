/-
  The reference's three appends behind one another, in whatever order its parts come up.
-/
import Derived.Test.YtakamedgdiffbaaDoorPNoneTreeZ2
import Derived.Test.YtakamedgdiffbaaDoorPNoneNumG
import Derived.Test.YtakamedgdiffbaaDoorPNoneRefsM
import Derived.Test.YtakamedgdiffbaaDoorPNoneAddrA
import Derived.Laws.CopyRow
import Derived.Lib.AppendZerosOnto
import Derived.Lib.Overlaps
import Derived.Laws.Externs
import Derived.Deep.AppendLies
import Derived.Orders
namespace Go.Proofs.YtakamedgdiffbaaDoor.RefsC
set_option linter.unusedVariables false
open Go.RowKit Go.Proofs.YtakamedgdiffbaaDoor.NumC
open Go.Proofs.YtakamedgdiffbaaDoor.TreeC (addr_add0 addr_add below_grown run_append_none0)
theorem box_rat {u : World} {j : Nat} {x : Rc} (h : RBox u j x) : RAt u u.heap.size [x] (some ⟨j, 0, none⟩) := by
  obtain ⟨c0, c1, c2, c3⟩ := h.cells
  refine Or.inr ⟨j, 0, rfl, h.lt, fun i y hy => ?_⟩
  cases i with
  | zero => cases hy; exact ⟨c0, c1, c2, c3⟩
  | succ i => cases hy
end Go.Proofs.YtakamedgdiffbaaDoor.RefsC
namespace Go.Proofs.YtakamedgdiffbaaDoor.RefsC
set_option linter.unusedVariables false
open Go.RowKit Go.Proofs.YtakamedgdiffbaaDoor.NumC
open Go.Proofs.YtakamedgdiffbaaDoor.TreeC (addr_add0 addr_add Kept Kept.refl eq_rect below_grown)
def RPost (B : Nat) (v : Value) (l : List Rc) (w : World) (e : Ending) (w' : World) : Prop := ∃ v', e = .returned v' ∧ OS w' B v' l ∧ Below w.heap.size w w' ∧ (v' = v ∨ OS w' w.heap.size v' l)
end Go.Proofs.YtakamedgdiffbaaDoor.RefsC
