/-
  Contracts of package num: Mul, Div, Mod. Nothing is assumed but that the arguments are numbers of their kinds.
-/
import Derived.Test.YtjneekkjmjhofaaDoorNumA
import Derived.Test.YtjneekkjmjhofaaDoorShelf
namespace Go.Proofs.YtjneekkjmjhofaaDoor.NumC
set_option linter.unusedVariables false
open Go.RowKit

end Go.Proofs.YtjneekkjmjhofaaDoor.NumC
