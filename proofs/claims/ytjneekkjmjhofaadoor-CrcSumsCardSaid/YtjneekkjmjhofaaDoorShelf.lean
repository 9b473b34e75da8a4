/-
  Nothing is asked of the shelf here.
-/
import Derived.Test.YtjneekkjmjhofaaDoorProg
import Derived.Shelf.Lay
namespace Go.Proofs.YtjneekkjmjhofaaDoor
end Go.Proofs.YtjneekkjmjhofaaDoor
