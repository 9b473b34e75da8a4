/-
  Arguments that are structs and arrays by value, opened to their numbers; an argument that was only read reads as it did.
-/
import Derived.Test.YtakamedgdiffbaaGreatDoorPPlaysNumM
import Derived.Test.YtakamedgdiffbaaGreatDoorProg
import Derived.Lib.SmallJoins
import Derived.OpenShut
import Derived.Carry
namespace Go.Proofs.YtakamedgdiffbaaGreatDoor.NumC
set_option linter.unusedVariables false
open Go.ChangeShapes Go.WideShapes Go.ChangeAt Go.RowKit
section
variable {H : Type} {enc : TypeId × Value → H} {P : Program} {w : World} {base : Nat} {spare : Nat → Bool} {held : Bool} {fuel : Nat} {t : TypeId} {cs : List Value} {x : DataW H × List MemPlace}
theorem struct_sub {fs : Array Field} {e : TypeId} {o c i : Nat} (ht : P.underlying t = some (.struct fs)) (h : DataW.trod enc P w base spare held fuel t cs = some x) (hf : ∃ f, fs[i]? = some f ∧ f.type = e ∧ f.offset = o) (hC : P.cellsOf e = c) :
    ∃ y n, DataW.trod enc P w base spare held n e ((cs.drop o).take c) = some y := by
  obtain ⟨f, hf, rfl, rfl⟩ := hf
  subst hC
  obtain ⟨xs, n, -, -, -, hl, hh⟩ := DataW.trod_struct ht h
  have h1 := hh i f hf
  have hi : i < xs.length := by rw [hl]; exact (Array.getElem?_eq_some_iff.1 hf).1
  exact ⟨_, n, h1.trans (List.getElem?_eq_getElem hi)⟩
theorem cell_int {k : IntKind} {e : TypeId} (he : P.underlying e = some (.int k)) {o : Nat} {l : List Value} (h : DataW.trod enc P w base spare held fuel e ((l.drop o).take 1) = some x) :
    ∃ m, l[o]? = some (.int k m) ∧ (Lit.int k m).wf = true := by
  obtain ⟨m, h1, -, h2⟩ := DataW.trod_int he h
  refine ⟨m, ?_, h2⟩
  have : ((l.drop o).take 1)[0]? = some (.int k m) := by rw [h1]; rfl
  rwa [List.getElem?_take_of_lt (by omega), List.getElem?_drop, Nat.add_zero] at this
theorem sub_cell {o k n : Nat} {l : List Value} {v : Value} (h : ((l.drop o).take n)[k]? = some v) : l[o + k]? = some v := by
  have hk : k < n := by
    have := (List.getElem?_eq_some_iff.1 h).1
    rw [List.length_take] at this; omega
  rwa [List.getElem?_take_of_lt hk, List.getElem?_drop] at h
end
end Go.Proofs.YtakamedgdiffbaaGreatDoor.NumC
