/-
  Contracts of the reference's graph: Loops, behind.
-/
import Derived.Test.YtakamedgdiffbaaDoorPRingGraphA
import Derived.Test.YtakamedgdiffbaaDoorPRingRowsA
import Derived.Laws.OwnMore
import Derived.Deep.RegionHeld3
namespace Go.Proofs.YtakamedgdiffbaaDoor.GraphC
set_option linter.unusedVariables false
open Go.RowKit Go.Proofs.YtakamedgdiffbaaDoor.NumC Go.Proofs.YtakamedgdiffbaaDoor.RowsC
open Go.Proofs.YtakamedgdiffbaaDoor.RefsC (Rc RAt hitsL)
theorem below_d {n : Nat} {w w' : World} (h : Below n w w') : Below n w w'.drew := ⟨h.os, h.tape, h.output, h.size, h.block⟩
end Go.Proofs.YtakamedgdiffbaaDoor.GraphC
