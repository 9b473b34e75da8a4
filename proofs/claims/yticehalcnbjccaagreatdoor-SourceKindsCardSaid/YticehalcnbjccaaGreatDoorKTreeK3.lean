/-
  Contract of the statements' helper that compares two trees, where they are alike.
-/
import Derived.Test.YticehalcnbjccaaGreatDoorKTreeT
import Derived.Test.YticehalcnbjccaaGreatDoorKLexF
import Derived.Test.YticehalcnbjccaaGreatDoorKAddrD
import Derived.Test.YticehalcnbjccaaGreatDoorKTreeV
import Derived.Test.YticehalcnbjccaaGreatDoorKTreeR3
import Derived.Laws.OwnMore
import Derived.Deep.RegionWith
import Derived.Deep.RegionHeld3
import Derived.Deep.CutRange
namespace Go.Proofs.YticehalcnbjccaaGreatDoor.TreeC
set_option linter.unusedVariables false
open Go.RowKit Go.Proofs.YticehalcnbjccaaGreatDoor.NumC Go.Proofs.YticehalcnbjccaaGreatDoor.LexC
structure N2 (w : World) (b8 b9 : Nat) (f : Fld) (A A' : Option Addr) (n c c' : Nat) : Prop where
  l : NLoc w b8 f A n c
  r : NLoc w b9 f A' n c'
structure C2 (w : World) (b8 b9 : Nat) (f : Fld) (A A' : Option Addr) (n c c' : Nat) : Prop where
  all : w.cell? ⟨b8, 0, none⟩ = some (.int .i64 f.k) ∧ w.cell? ⟨b8, 1, none⟩ = some (.int .i64 f.vk) ∧ w.cell? ⟨b8, 2, none⟩ = some (.int .i64 f.vn) ∧ w.cell? ⟨b8, 3, none⟩ = some (.string f.vs) ∧ w.cell? ⟨b8, 4, none⟩ = some (.int .i64 f.r1) ∧ w.cell? ⟨b8, 5, none⟩ = some (.int .i64 f.r2) ∧ w.cell? ⟨b8, 6, none⟩ = some (.int .i64 f.r3) ∧ w.cell? ⟨b8, 7, none⟩ = some (.int .i64 f.r4) ∧ w.cell? ⟨b8, 8, none⟩ = some (.string f.op) ∧ w.cell? ⟨b8, 9, none⟩ = some (.slice A n c) ∧ w.cell? ⟨b9, 0, none⟩ = some (.int .i64 f.k) ∧ w.cell? ⟨b9, 1, none⟩ = some (.int .i64 f.vk) ∧ w.cell? ⟨b9, 2, none⟩ = some (.int .i64 f.vn) ∧ w.cell? ⟨b9, 3, none⟩ = some (.string f.vs) ∧ w.cell? ⟨b9, 4, none⟩ = some (.int .i64 f.r1) ∧ w.cell? ⟨b9, 5, none⟩ = some (.int .i64 f.r2) ∧ w.cell? ⟨b9, 6, none⟩ = some (.int .i64 f.r3) ∧ w.cell? ⟨b9, 7, none⟩ = some (.int .i64 f.r4) ∧ w.cell? ⟨b9, 8, none⟩ = some (.string f.op) ∧ w.cell? ⟨b9, 9, none⟩ = some (.slice A' n c')
end Go.Proofs.YticehalcnbjccaaGreatDoor.TreeC
namespace Go.Proofs.YticehalcnbjccaaGreatDoor.TreeC
set_option linter.unusedVariables false
open Go.RowKit Go.Proofs.YticehalcnbjccaaGreatDoor.NumC Go.Proofs.YticehalcnbjccaaGreatDoor.LexC
theorem kept_drew1 {x : Nat} {a w : World} (h : Kept x a w) : Kept x a w.drew := h.drew 1
end Go.Proofs.YticehalcnbjccaaGreatDoor.TreeC
