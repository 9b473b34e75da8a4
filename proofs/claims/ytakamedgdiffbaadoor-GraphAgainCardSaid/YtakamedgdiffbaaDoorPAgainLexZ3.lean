/-
  Contracts of package lex: Upper, Quote.
-/
import Derived.Test.YtakamedgdiffbaaDoorPAgainNumN
import Derived.Test.YtakamedgdiffbaaDoorPAgainNumR
import Derived.Test.YtakamedgdiffbaaDoorProg
import Derived.Test.YtakamedgdiffbaaDoorPAgainNumM
import Derived.Test.YtakamedgdiffbaaDoorPAgainNumG
import Derived.WalkKit
import Derived.WalkSpells
import Derived.WalkLawsBesides
import Derived.Deep.QuietTactic
import Derived.BigQuiet
import Derived.Lib.Hide
import Derived.Laws.IdiomStrings
import Derived.LoopTactic
import Derived.LoopN
import Derived.Lib.Strings
import Derived.Shelf.Lay
import Derived.Shelf.Strings.Builder1
import Derived.Deep.DeepFit
import Derived.WalkSmall
import Derived.Lib.AppendIntMem
import Derived.Lib.AtoiErrMem
import Derived.Lib.Replace
namespace Go.Proofs.YtakamedgdiffbaaDoor.LexC
set_option linter.unusedVariables false
open Go.RowKit Go.Proofs.YtakamedgdiffbaaDoor.NumC
theorem one_cell (l : List UInt8) (c : UInt8) : Lib.byteCells l ++ [Value.int .u8 (c.toNat : Int)] = Lib.byteCells (l ++ [c]) := by rw [Lib.byteCells_append]; rfl
end Go.Proofs.YtakamedgdiffbaaDoor.LexC
