/-
  Contracts of the library's errors.As at the errors that tree tells: into a placed one, and into a number.
-/
import Derived.Test.YtakamedgdiffbaaGreatDoorPPlaysAddrA
import Derived.Test.YtakamedgdiffbaaGreatDoorPPlaysTreeA
import Derived.Test.YtakamedgdiffbaaGreatDoorPPlaysNumG
import Derived.Test.YtakamedgdiffbaaGreatDoorPPlaysNumN
import Derived.Test.YtakamedgdiffbaaGreatDoorProg
import Derived.Test.YtakamedgdiffbaaGreatDoorPPlaysNumM
import Derived.WalkKit
import Derived.WalkSpells
import Derived.WalkLawsBesides
import Derived.Deep.QuietTactic
import Derived.BigQuiet
import Derived.Lib.Hide
import Derived.Shelf.Lay
import Derived.Deep.DeepFit
import Derived.WalkSmall
import Derived.Lib.AppendIntMem
import Derived.Lib.AtoiErrMem
import Derived.LaidEql
import Derived.Stop.Asserts
import Derived.RowKitTokens
namespace Go.Proofs.YtakamedgdiffbaaGreatDoor.TreeC
set_option linter.unusedVariables false
open Go.RowKit Go.Extern.Stop Go.Stop Go.Extern Go.Proofs.YtakamedgdiffbaaGreatDoor.NumC Go.Proofs.YtakamedgdiffbaaGreatDoor.LexC
def hnd (t : Nat) : Value := .pointer (some ⟨1, t, none⟩)
end Go.Proofs.YtakamedgdiffbaaGreatDoor.TreeC
