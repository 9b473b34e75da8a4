/-
  Contracts of package num: Pow, Gcd. Nothing is assumed but that the arguments are numbers of their kinds.
-/
import Derived.Test.YtjneekkjmjhofaaDoorNumB
namespace Go.Proofs.YtjneekkjmjhofaaDoor.NumC
set_option linter.unusedVariables false
open Go.RowKit

theorem below_drewN {B : Nat} {a w : World} (h : Below B a w) (n : Nat) : Below B a (w.drewN n) := ⟨h.os, h.tape, h.output, h.size, h.block⟩

end Go.Proofs.YtjneekkjmjhofaaDoor.NumC
