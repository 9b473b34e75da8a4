/-
  Contracts of package num: Mul, Div, Mod. Nothing is assumed but that the arguments are numbers of their kinds.
-/
import Derived.Test.YtlbnlflfoafioaaDoorNumA
import Derived.Test.YtlbnlflfoafioaaDoorShelf
namespace Go.Proofs.YtlbnlflfoafioaaDoor.NumC
set_option linter.unusedVariables false
open Go.RowKit

end Go.Proofs.YtlbnlflfoafioaaDoor.NumC
