/-
  Contracts of the reference's graph: Loops, behind.
-/
import Derived.Test.YtakamedgdiffbaaDoorPAgainGraphA
import Derived.Deep.RegionHeld3
namespace Go.Proofs.YtakamedgdiffbaaDoor.GraphC
set_option linter.unusedVariables false
open Go.RowKit Go.Proofs.YtakamedgdiffbaaDoor.NumC Go.Proofs.YtakamedgdiffbaaDoor.RowsC
open Go.Proofs.YtakamedgdiffbaaDoor.RefsC (Rc RAt hitsL)
theorem reach_len (G : Gl) (l : List Pt) : (reachL hitP G l).length ≤ G.length := pick_len _ _
theorem below_d {n : Nat} {w w' : World} (h : Below n w w') : Below n w w'.drew := ⟨h.os, h.tape, h.output, h.size, h.block⟩
end Go.Proofs.YtakamedgdiffbaaDoor.GraphC
namespace Go.Proofs.YtakamedgdiffbaaDoor.GraphC
set_option linter.unusedVariables false
open Go.RowKit Go.Proofs.YtakamedgdiffbaaDoor.NumC Go.Proofs.YtakamedgdiffbaaDoor.RowsC
open Go.Proofs.YtakamedgdiffbaaDoor.RefsC (Rc RAt hitsL)
theorem loops_len2 (G : Gl) : (loopsL hitP G).length ≤ G.length := by
  unfold loopsL cellsL
  refine Nat.le_trans (List.length_filter_le _ _) ?_
  rw [List.length_map]; exact Nat.le_refl _
section
variable {A : Type} [DecidableEq A]
end
end Go.Proofs.YtakamedgdiffbaaDoor.GraphC
