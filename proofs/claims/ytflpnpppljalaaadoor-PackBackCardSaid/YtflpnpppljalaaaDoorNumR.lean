/-
  Contracts of the reference's numbers: whole, signed, or, Add, Sub. Nothing is assumed but that the arguments are numbers of their kinds.
-/
import Derived.Test.YtflpnpppljalaaaDoorProg
import Derived.Test.YtflpnpppljalaaaDoorNumM
import Derived.WalkKit
import Derived.WalkSpells
import Derived.WalkLawsBesides
import Derived.Deep.QuietTactic
import Derived.BigQuiet
import Derived.Lib.Hide
namespace Go.Proofs.YtflpnpppljalaaaDoor.NumC
set_option linter.unusedVariables false
open Go.RowKit

/-- A number, if there is one. -/
def gotV (n : Int) (b : Bool) : Value := .agg #[.int .i64 n, .bool b]
theorem got_eq {n n' : Int} {b b' : Bool} (hn : n = n') (hb : b = b') : Ending.returned (.agg #[.int .i64 n, .bool b]) = .returned (.agg #[.int .i64 n', .bool b']) := by subst hn hb; rfl

theorem retu {x x' : Int} (hx : x = x') : Ending.returned (.int .u64 x) = .returned (.int .u64 x') := by subst hx; rfl
theorem u64_neg_back {u : Int} (h0 : 0 ≤ u) (h1 : u ≤ 9223372036854775808) : wrap64 (-wrap64 u) = -u ∨ u = 9223372036854775808 := by
  unfold wrap64; omega

theorem bcell {W w1 : World} (hb : Below W.heap.size W w1) : (∀ b o, b < W.heap.size → w1.cell? ⟨b, o, none⟩ = W.cell? ⟨b, o, none⟩) ∧ (∀ b o, b < W.heap.size → w1.frozen? ⟨b, o, none⟩ = W.frozen? ⟨b, o, none⟩) :=
  ⟨fun b o h => hb.cell (p := ⟨b, o, none⟩) h, fun b o h => hb.frozen (p := ⟨b, o, none⟩) h⟩

theorem below_of {w w1 : World} {o : Obj} (hb1 : Below (w.alloc o).heap.size (w.alloc o) w1) : Below w.heap.size w w1 :=
  ((Below.refl _ _).alloc (Nat.le_refl _) o).trans (hb1.mono (by simp))
theorem size_of {w w1 : World} {o : Obj} (hb1 : Below (w.alloc o).heap.size (w.alloc o) w1) : w.heap.size < w1.heap.size := by
  have := hb1.size; simp at this; omega

theorem below_then {w w1 w2 : World} {o : Obj} (hb1 : Below (w.alloc o).heap.size (w.alloc o) w1) (hb2 : Below w1.heap.size w1 w2) : Below (w.alloc o).heap.size (w.alloc o) w2 :=
  hb1.trans (hb2.mono hb1.size)
end Go.Proofs.YtflpnpppljalaaaDoor.NumC
