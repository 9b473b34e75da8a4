/-
  A builder of one's own that holds bytes: a byte more; told as a text.
-/
import Derived.Test.YtflpnpppljalaaaDoorLexS
import Derived.Test.YtflpnpppljalaaaDoorShelf
import Derived.Test.YtflpnpppljalaaaDoorRowsC
namespace Go.Proofs.YtflpnpppljalaaaDoor.ErrC
set_option linter.unusedVariables false
open Go.RowKit Go.Proofs.YtflpnpppljalaaaDoor.NumC Go.Proofs.YtflpnpppljalaaaDoor.RowsC

/-- A builder of one's own, that holds these bytes. -/
abbrev Holds (B : Nat) (l : List UInt8) (w : World) : Prop := Lib.IsBuilder 60 5 B B (Lib.byteCells l) w
theorem holds_new (w : World) : Holds w.heap.size [] (w.alloc (.cells #[.pointer none, .slice none 0 0] 60)) := Lib.fresh_isBuilder _ _ w
theorem one_cell (l : List UInt8) (c : UInt8) : Lib.byteCells l ++ [Value.int .u8 (c.toNat : Int)] = Lib.byteCells (l ++ [c]) := by rw [Lib.byteCells_append]; rfl
/-- A byte more. -/
theorem writeByte (B : Nat) (l : List UInt8) (c : UInt8) (w : World) (h : Holds B l w) (hl : l.length ≤ 2000000) (hB : B ≤ w.heap.size) :
    Calls Tryd.prog 23 #[.pointer (some ⟨B, 0, none⟩), .int .u8 (c.toNat : Int)] w fun e w' => e = .returned .nilIface ∧ Holds B (l ++ [c]) w' ∧ Below B w w' :=
  (Tryd.Builder_WriteByte B B _ _ _ h (by rw [Lib.byteCells_length]; omega) hB).mono fun e w' ⟨h1, h2, h3⟩ => ⟨h1, by rw [one_cell] at h2; exact Or.inr h2, h3⟩
theorem bString (B : Nat) (l : List UInt8) (w : World) (h : Holds B l w) (hB : B ≤ w.heap.size) :
    Calls Tryd.prog 24 #[.pointer (some ⟨B, 0, none⟩)] w fun e w' => e = .returned (.string ⟨l.toArray⟩) ∧ Below B w w' := Tryd.Builder_String_any B B l w h hB
end Go.Proofs.YtflpnpppljalaaaDoor.ErrC
