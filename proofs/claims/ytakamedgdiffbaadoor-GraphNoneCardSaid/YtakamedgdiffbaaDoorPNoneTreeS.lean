/-
  Contracts of the library's errors.As at the errors that tree tells: into a placed one, and into a number.
-/
import Derived.Test.YtakamedgdiffbaaDoorPNoneAddrA
import Derived.Test.YtakamedgdiffbaaDoorPNoneTreeA
import Derived.Test.YtakamedgdiffbaaDoorPNoneNumG
import Derived.Test.YtakamedgdiffbaaDoorPNoneNumN
import Derived.Test.YtakamedgdiffbaaDoorProg
import Derived.Test.YtakamedgdiffbaaDoorPNoneNumM
import Derived.Orders
import Derived.WalkKit
import Derived.WalkSpells
import Derived.WalkLawsBesides
import Derived.Deep.QuietTactic
import Derived.BigQuiet
import Derived.Lib.Hide
import Derived.Shelf.Lay
import Derived.Deep.DeepFit
import Derived.WalkSmall
import Derived.Lib.AppendIntMem
import Derived.Lib.AtoiErrMem
import Derived.LaidEql
import Derived.Stop.Asserts
import Derived.RowKitTokens
namespace Go.Proofs.YtakamedgdiffbaaDoor.TreeC
set_option linter.unusedVariables false
open Go.RowKit Go.Extern.Stop Go.Stop Go.Extern Go.Proofs.YtakamedgdiffbaaDoor.NumC Go.Proofs.YtakamedgdiffbaaDoor.LexC
def hnd (t : Nat) : Value := .pointer (some ⟨1, t, none⟩)
end Go.Proofs.YtakamedgdiffbaaDoor.TreeC
