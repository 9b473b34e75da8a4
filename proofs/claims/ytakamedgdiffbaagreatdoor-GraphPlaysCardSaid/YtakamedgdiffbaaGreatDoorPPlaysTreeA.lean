/-
  Trees and the parser's state in memory; what stays when all blocks but one are kept.
-/
import Derived.Test.YtakamedgdiffbaaGreatDoorPPlaysAddrA
import Derived.Test.YtakamedgdiffbaaGreatDoorPPlaysNumN
import Derived.Test.YtakamedgdiffbaaGreatDoorPPlaysNumR
import Derived.Test.YtakamedgdiffbaaGreatDoorProg
import Derived.Test.YtakamedgdiffbaaGreatDoorPPlaysNumM
import Derived.Test.YtakamedgdiffbaaGreatDoorPPlaysNumG
import Derived.WalkKit
import Derived.WalkSpells
import Derived.WalkLawsBesides
import Derived.Deep.QuietTactic
import Derived.BigQuiet
import Derived.Lib.Hide
import Derived.Laws.IdiomStrings
import Derived.LoopTactic
import Derived.LoopN
import Derived.Lib.Strings
import Derived.IntWalk
import Derived.Maps.AppendAt
import Derived.OwnWalk
import Derived.Deep.AppendLies
namespace Go.Proofs.YtakamedgdiffbaaGreatDoor.TreeC
set_option linter.unusedVariables false
open Go.RowKit Go.Proofs.YtakamedgdiffbaaGreatDoor.NumC Go.Proofs.YtakamedgdiffbaaGreatDoor.LexC
structure Kept (x : Nat) (w w' : World) : Prop where
  os : w'.os = w.os
  tape : w'.tape = w.tape
  output : w'.output = w.output
  size : w.heap.size ≤ w'.heap.size
  block : ∀ k, k < w.heap.size → k ≠ x → w'.heap[k]? = w.heap[k]?
theorem Kept.refl (x : Nat) (w : World) : Kept x w w := ⟨rfl, rfl, rfl, Nat.le_refl _, fun _ _ _ => rfl⟩
theorem Kept.trans {x : Nat} {a b c : World} (h : Kept x a b) (g : Kept x b c) : Kept x a c :=
  ⟨g.os.trans h.os, g.tape.trans h.tape, g.output.trans h.output, Nat.le_trans h.size g.size, fun k hk hx => (g.block k (Nat.lt_of_lt_of_le hk h.size) hx).trans (h.block k hk hx)⟩
theorem Kept.of {x : Nat} {w w' : World} (h : Below w.heap.size w w') : Kept x w w' := ⟨h.os, h.tape, h.output, h.size, fun k hk _ => h.block k hk⟩
theorem Kept.drew {x : Nat} {a w : World} (h : Kept x a w) (n : Nat) : Kept x a (w.drewN n) := ⟨h.os, h.tape, h.output, h.size, h.block⟩
theorem Kept.alloc {x : Nat} {a w : World} (h : Kept x a w) (o : Obj) : Kept x a (w.alloc o) := h.trans (Kept.of ((Below.refl _ _).alloc (Nat.le_refl _) o))
theorem Kept.setCell {x : Nat} {a w : World} (h : Kept x a w) (o : Nat) (v : Value) : Kept x a (w.setCell ⟨x, o, none⟩ v) := by
  have hs : (w.setCell ⟨x, o, none⟩ v).heap.size = w.heap.size := by simp [World.setCell]
  refine ⟨h.os, h.tape, h.output, by rw [hs]; exact h.size, fun k hk hx => ?_⟩
  have : (w.setCell ⟨x, o, none⟩ v).heap[k]? = w.heap[k]? := by
    simp only [World.setCell, Array.getElem?_modify]
    rw [if_neg (fun e => hx e.symm)]
  rw [this]; exact h.block k hk hx
theorem Kept.cell {x : Nat} {w w' : World} (h : Kept x w w') {b o : Nat} {v : Value} (hx : b ≠ x) (hv : w.cell? ⟨b, o, none⟩ = some v) : w'.cell? ⟨b, o, none⟩ = some v := by
  have hlt : b < w.heap.size := World.block_lt_of_cell? w _ hv
  rw [← hv]
  unfold World.cell?
  rw [h.block b hlt hx]
end Go.Proofs.YtakamedgdiffbaaGreatDoor.TreeC
