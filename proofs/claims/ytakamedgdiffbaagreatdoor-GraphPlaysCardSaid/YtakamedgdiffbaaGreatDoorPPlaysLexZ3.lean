/-
  Contracts of package lex: Upper, Quote.
-/
import Derived.Test.YtakamedgdiffbaaGreatDoorPPlaysNumN
import Derived.Test.YtakamedgdiffbaaGreatDoorPPlaysNumR
import Derived.Test.YtakamedgdiffbaaGreatDoorProg
import Derived.Test.YtakamedgdiffbaaGreatDoorPPlaysNumM
import Derived.Test.YtakamedgdiffbaaGreatDoorPPlaysNumG
import Derived.WalkKit
import Derived.WalkSpells
import Derived.WalkLawsBesides
import Derived.Deep.QuietTactic
import Derived.BigQuiet
import Derived.Lib.Hide
import Derived.Laws.IdiomStrings
import Derived.LoopTactic
import Derived.LoopN
import Derived.Lib.Strings
import Derived.Shelf.Lay
import Derived.Shelf.Strings.Builder1
import Derived.Deep.DeepFit
import Derived.WalkSmall
import Derived.Lib.AppendIntMem
import Derived.Lib.AtoiErrMem
import Derived.Lib.Replace
namespace Go.Proofs.YtakamedgdiffbaaGreatDoor.LexC
set_option linter.unusedVariables false
open Go.RowKit Go.Proofs.YtakamedgdiffbaaGreatDoor.NumC
theorem one_cell (l : List UInt8) (c : UInt8) : Lib.byteCells l ++ [Value.int .u8 (c.toNat : Int)] = Lib.byteCells (l ++ [c]) := by rw [Lib.byteCells_append]; rfl
end Go.Proofs.YtakamedgdiffbaaGreatDoor.LexC
