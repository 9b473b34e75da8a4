/-
  Contract of tree's reference: name, but for ranges.
-/
import Derived.Test.YticehalcnbjccaaGreatDoorBLexF
import Derived.Test.YticehalcnbjccaaGreatDoorBAddrD
import Derived.Deep.RegionWith
import Derived.Deep.RegionHeld3
namespace Go.Proofs.YticehalcnbjccaaGreatDoor.TreeC
set_option linter.unusedVariables false
open Go.RowKit Go.Proofs.YticehalcnbjccaaGreatDoor.NumC Go.Proofs.YticehalcnbjccaaGreatDoor.LexC
section
variable {l : List Tok} {n : Int} {L : Lev} {into : Bool} {k : Nat} {t : Tok}
theorem name_true (h : isSign l (k + 1) [40] = false) (h1 : t.s = trueB) : nameF l n L into t k = .ok (constN 1 1 nob, k + 1) := by simp [nameF, h, h1]
theorem name_false (h : isSign l (k + 1) [40] = false) (h1 : t.s ≠ trueB) (h2 : t.s = falseB) : nameF l n L into t k = .ok (constN 1 0 nob, k + 1) := by
  unfold nameF
  rw [if_neg (by rw [h]; exact Bool.false_ne_true), if_neg h1, if_pos h2]
theorem name_cell (h : isSign l (k + 1) [40] = false) (h1 : t.s ≠ trueB) (h2 : t.s ≠ falseB) (h3 : AddrC.pOK t.s.data.toList = true) (h4 : isSign l (k + 1) [58] = false) : nameF l n L into t k = .ok (cellN (AddrC.pR t.s.data.toList) (AddrC.pC t.s.data.toList), k + 1) := by
  unfold nameF
  rw [if_neg (by rw [h]; exact Bool.false_ne_true), if_neg h1, if_neg h2, if_neg (by rw [h3]; exact (by decide)), if_neg (by rw [h4]; exact Bool.false_ne_true)]
end
end Go.Proofs.YticehalcnbjccaaGreatDoor.TreeC
