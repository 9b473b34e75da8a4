/-
  Plain facts on decimal numerals: a numeral of an int64 is read back as it; what a text says, if it is a numeral. No program in it.
-/
import Derived.Test.YtakamedgdiffbaaGreatDoorPPlaysNumM
import Derived.Lib.ItoaNum
import Derived.Lib.ItoaMem
import Derived.Lib.AtoiAll
import Derived.Lib.ParseIntBTie
import GoSem.Op.String
namespace Go.Proofs.YtakamedgdiffbaaGreatDoor.NumC
set_option linter.unusedVariables false
open Go.Lib
def val (l : List UInt8) : Nat := l.foldl (fun a c => a * 10 + (c.toNat - 48)) 0
end Go.Proofs.YtakamedgdiffbaaGreatDoor.NumC
namespace Go.Proofs.YtakamedgdiffbaaGreatDoor.AddrC
set_option linter.unusedVariables false
open Go.Proofs.YtakamedgdiffbaaGreatDoor.NumC
def Cell (r c : Int) : Prop := (1 ≤ r ∧ r ≤ 1000) ∧ (1 ≤ c ∧ c ≤ 50)
instance (r c : Int) : Decidable (Cell r c) := by unfold Cell; infer_instance
end Go.Proofs.YtakamedgdiffbaaGreatDoor.AddrC
namespace Go.Proofs.YtakamedgdiffbaaGreatDoor.LexC
set_option linter.unusedVariables false
open Go.Proofs.YtakamedgdiffbaaGreatDoor.NumC
structure Tok where
  k : Int
  n : Int
  s : ByteArray
  at_ : Int
  deriving DecidableEq
def str (l : List UInt8) : ByteArray := ⟨l.toArray⟩
end Go.Proofs.YtakamedgdiffbaaGreatDoor.LexC
namespace Go.Proofs.YtakamedgdiffbaaGreatDoor.ValueC
set_option linter.unusedVariables false
open Go.Proofs.YtakamedgdiffbaaGreatDoor.NumC
structure Val where
  k : Int
  n : Int
  s : ByteArray
  deriving DecidableEq
def GoodP (a : Val) : Prop :=
  (a.k = 0 ∧ a.n = 0 ∧ a.s.size = 0) ∨ (a.k = 1 ∧ (a.n = 0 ∨ a.n = 1) ∧ a.s.size = 0) ∨ (a.k = 2 ∧ a.s.size = 0) ∨ (a.k = 3 ∧ a.n = 0 ∧ a.s.size ≤ 200) ∨ (a.k = 4 ∧ (1 ≤ a.n ∧ a.n ≤ 8) ∧ a.s.size = 0)
instance (a : Val) : Decidable (GoodP a) := by unfold GoodP; infer_instance
def rankN (k : Int) : Int := if k = 2 then 1 else if k = 3 then 2 else if k = 1 then 3 else 0
def bl (x y : ByteArray) : Bool := Op.bytesLess x.data.toList y.data.toList
def ltP (a b : Val) : Prop := rankN a.k < rankN b.k ∨ (rankN a.k = rankN b.k ∧ (a.n < b.n ∨ (a.n = b.n ∧ bl a.s b.s = true)))
instance (a b : Val) : Decidable (ltP a b) := by unfold ltP; infer_instance
def Ord (a : Val) : Prop := GoodP a ∧ a.k ≠ 4
instance (a : Val) : Decidable (Ord a) := by unfold Ord; infer_instance
end Go.Proofs.YtakamedgdiffbaaGreatDoor.ValueC
