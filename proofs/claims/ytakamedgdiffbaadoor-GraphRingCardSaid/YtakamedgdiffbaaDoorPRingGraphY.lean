/-
  Arguments as the statements of the graph are handed them: steps, rows of cells, one step, one cell.
-/
import Derived.Test.YtakamedgdiffbaaDoorPRingGraphG
import Derived.Test.YtakamedgdiffbaaDoorPRingRowsA
import Derived.Test.YtakamedgdiffbaaDoorPRingNumM
import Derived.Test.YtakamedgdiffbaaDoorProg
import Derived.Lib.SmallJoins
import Derived.OpenShut
import Derived.Carry
namespace Go.Proofs.YtakamedgdiffbaaDoor.GraphC
set_option linter.unusedVariables false
open Go.ChangeShapes Go.WideShapes Go.ChangeAt Go.RowKit Go.Proofs.YtakamedgdiffbaaDoor.NumC Go.Proofs.YtakamedgdiffbaaDoor.RowsC
open Go.Proofs.YtakamedgdiffbaaDoor.RefsC (Rc RAt hitsL putL)
section
variable {H : Type} {enc : TypeId × Value → H} {w : World} {base : Nat} {spare : Nat → Bool} {held : Bool} {r : Reach} {b0 : Nat} {v : Value} {d : DataW H} {p : List MemPlace}
end
theorem graphRingI {K : World → Prop} {At : World → (Nat → Prop) → Value → Gl → Prop} (I : CodeG K At) (a b : Int) (w : World) (hK : K w) (ha : 0 ≤ a ∧ a ≤ 255) (hb : 0 ≤ b ∧ b ≤ 255) :
    Calls Tryd.prog 5 #[.int .u8 a, .int .u8 b] w fun e w' => e = .returned (.bool true) ∧ Below w.heap.size w w' := by
  obtain ⟨n, rfl⟩ : ∃ n : Nat, a = n := ⟨a.toNat, by omega⟩
  obtain ⟨m, rfl⟩ : ∃ m : Nat, b = m := ⟨b.toNat, by omega⟩
  exact graphRing I n m w hK (by omega) (by omega)
end Go.Proofs.YtakamedgdiffbaaDoor.GraphC
