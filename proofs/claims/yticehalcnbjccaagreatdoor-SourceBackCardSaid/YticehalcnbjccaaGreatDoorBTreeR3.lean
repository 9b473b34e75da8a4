/-
  Contracts of tree's reference: every part at each nesting.
-/
import Derived.Test.YticehalcnbjccaaGreatDoorBTreeL
import Derived.Test.YticehalcnbjccaaGreatDoorBTreeP4
import Derived.Deep.CutRange
import Derived.Deep.RegionLaw
import Derived.Deep.AppendLies
namespace Go.Proofs.YticehalcnbjccaaGreatDoor.TreeC
set_option linter.unusedVariables false
open Go.RowKit Go.Proofs.YticehalcnbjccaaGreatDoor.NumC Go.Proofs.YticehalcnbjccaaGreatDoor.LexC
structure Env1 (x : Nat) (lv : Value) (l : List Tok) (en nest : Int) (L : Lev) (into : Bool) : Prop where
  hl : l.length ≤ 300
  hn0 : 0 ≤ nest
  hn1 : nest ≤ 40
  hi : into = decide (nest < 40)
  hc : into = true → Con1 x lv l en (nest + 1) L
  hts : ∀ u ∈ l, u.s.size ≤ 1000000
  hL : LGoes l L
section
variable {x : Nat} {lv : Value} {l : List Tok} {en nest : Int} {L : Lev} {into : Bool} (E : Env1 x lv l en nest L into)
include E
end
end Go.Proofs.YticehalcnbjccaaGreatDoor.TreeC
