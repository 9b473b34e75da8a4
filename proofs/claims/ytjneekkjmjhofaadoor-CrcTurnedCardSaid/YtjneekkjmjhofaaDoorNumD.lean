/-
  Contracts of package num: Dec, Parse. Of the world: the library's table and its two errors read as they are laid.
-/
import Derived.Test.YtjneekkjmjhofaaDoorNumN
import Derived.Test.YtjneekkjmjhofaaDoorNumC
import Derived.Deep.DeepFit
import Derived.WalkSmall
import Derived.Lib.AppendIntMem
import Derived.Lib.AtoiErrMem
namespace Go.Proofs.YtjneekkjmjhofaaDoor.NumC
set_option linter.unusedVariables false
open Go.RowKit

/-- What the library's own variables hold: the table of the powers of ten, both errors. -/
structure LibIs (w : World) : Prop where
  tab : Lib.TabIs Tryd.prog w "internal/strconv.uint64pow10" .u64 Lib.pow10Tab
  syn : ∃ t p, w.var? Tryd.prog "strconv.ErrSyntax" = some #[.iface t p]
  ran : ∃ t p, w.var? Tryd.prog "strconv.ErrRange" = some #[.iface t p]
theorem var?_size {P : Program} {w : World} {n : String} {g : Nat} {cs : Array Value} (hg : P.globalNamed n = some g) (hv : w.var? P n = some cs) : g < w.heap.size := by
  unfold World.var? at hv
  rw [hg] at hv
  simp only [Option.bind_some] at hv
  rcases Nat.lt_or_ge g w.heap.size with h | h
  · exact h
  · rw [Array.getElem?_eq_none h] at hv; cases hv
theorem rets {s s' : List UInt8} (h : s = s') : Ending.returned (.string ⟨s.toArray⟩) = .returned (.string ⟨s'.toArray⟩) := by subst h; rfl

theorem len_list (s : ByteArray) : s.size = s.data.toList.length := by unfold ByteArray.size; exact Array.length_toList.symm

end Go.Proofs.YtjneekkjmjhofaaDoor.NumC
