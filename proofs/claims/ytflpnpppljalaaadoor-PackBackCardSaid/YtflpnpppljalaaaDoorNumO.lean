/-
  Arguments that are structs and arrays by value, opened to their numbers; an argument that was only read reads as it did.
-/
import Derived.Test.YtflpnpppljalaaaDoorNumM
import Derived.Test.YtflpnpppljalaaaDoorProg
import Derived.Lib.SmallJoins
import Derived.OpenShut
import Derived.Carry
namespace Go.Proofs.YtflpnpppljalaaaDoor.NumC
set_option linter.unusedVariables false
open Go.ChangeShapes Go.WideShapes Go.ChangeAt Go.RowKit

section
variable {H : Type} {enc : TypeId × Value → H} {P : Program} {w : World} {base : Nat} {spare : Nat → Bool} {held : Bool} {fuel : Nat} {t : TypeId} {cs : List Value} {x : DataW H × List MemPlace}

theorem okWide_array {n : Nat} {e : TypeId} {r : Reach} {b0 : Nat} {v : Value} (ht : P.underlying t = some (.array n e)) (h : Value.okWide P w r b0 t v) : ∃ cs, v = .agg cs ∧ cs.size = P.cellsOf t := by
  simp only [Value.okWide, ht] at h
  obtain ⟨cs, h1, h2, _⟩ := h
  exact ⟨cs, h1, h2⟩
/-- A field of a struct, an element of an array: its own reading. -/
theorem struct_sub {fs : Array Field} {e : TypeId} {o c i : Nat} (ht : P.underlying t = some (.struct fs)) (h : DataW.trod enc P w base spare held fuel t cs = some x) (hf : ∃ f, fs[i]? = some f ∧ f.type = e ∧ f.offset = o) (hC : P.cellsOf e = c) :
    ∃ y n, DataW.trod enc P w base spare held n e ((cs.drop o).take c) = some y := by
  obtain ⟨f, hf, rfl, rfl⟩ := hf
  subst hC
  obtain ⟨xs, n, -, -, -, hl, hh⟩ := DataW.trod_struct ht h
  have h1 := hh i f hf
  have hi : i < xs.length := by rw [hl]; exact (Array.getElem?_eq_some_iff.1 hf).1
  exact ⟨_, n, h1.trans (List.getElem?_eq_getElem hi)⟩
theorem array_sub {n : Nat} {e : TypeId} (ht : P.underlying t = some (.array n e)) (h : DataW.trod enc P w base spare held fuel t cs = some x) {i : Nat} (hi : i < n) :
    ∃ y m, DataW.trod enc P w base spare held m e ((cs.drop (i * P.cellsOf e)).take (P.cellsOf e)) = some y := by
  obtain ⟨xs, m, -, -, -, hl, hh⟩ := DataW.trod_array ht h
  exact ⟨_, m, (hh i hi).trans (List.getElem?_eq_getElem (by omega))⟩
/-- .. if it is a number. -/
theorem cell_int {k : IntKind} {e : TypeId} (he : P.underlying e = some (.int k)) {o : Nat} {l : List Value} (h : DataW.trod enc P w base spare held fuel e ((l.drop o).take 1) = some x) :
    ∃ m, l[o]? = some (.int k m) ∧ (Lit.int k m).wf = true := by
  obtain ⟨m, h1, -, h2⟩ := DataW.trod_int he h
  refine ⟨m, ?_, h2⟩
  have : ((l.drop o).take 1)[0]? = some (.int k m) := by rw [h1]; rfl
  rwa [List.getElem?_take_of_lt (by omega), List.getElem?_drop, Nat.add_zero] at this
theorem cell_bool {e : TypeId} (he : P.underlying e = some .bool) {o : Nat} {l : List Value} (h : DataW.trod enc P w base spare held fuel e ((l.drop o).take 1) = some x) :
    ∃ b, l[o]? = some (.bool b) := by
  obtain ⟨m, h1, -⟩ := DataW.trod_bool he h
  refine ⟨m, ?_⟩
  have : ((l.drop o).take 1)[0]? = some (.bool m) := by rw [h1]; rfl
  rwa [List.getElem?_take_of_lt (by omega), List.getElem?_drop, Nat.add_zero] at this
theorem sub_cell {o k n : Nat} {l : List Value} {v : Value} (h : ((l.drop o).take n)[k]? = some v) : l[o + k]? = some v := by
  have hk : k < n := by
    have := (List.getElem?_eq_some_iff.1 h).1
    rw [List.length_take] at this; omega
  rwa [List.getElem?_take_of_lt hk, List.getElem?_drop] at h
/-- A struct by value: its cells, and their reading. -/
theorem open_struct {fs : Array Field} {n : Nat} {r : Reach} {b0 : Nat} {v : Value} {d : DataW H} {p : List MemPlace} (ht : P.underlying t = some (.struct fs)) (hC : P.cellsOf t = n)
    (hv : Value.okWide P w r b0 t v) (h : DataW.Trod enc P w base spare held t v d p) : ∃ (cs : Array Value) (y : DataW H × List MemPlace) (m : Nat), v = .agg cs ∧ cs.size = n ∧ DataW.trod enc P w base spare held m t cs.toList = some y := by
  obtain ⟨cs, rfl, hs⟩ := okWide_struct ht hv
  obtain ⟨fuel, hf⟩ := h
  exact ⟨cs, _, fuel, rfl, hs.trans hC, hf⟩
/-- An array of numbers, by value. -/
theorem open_array_ints {k : IntKind} {n : Nat} {e : TypeId} {r : Reach} {b0 : Nat} {v : Value} {d : DataW H} {p : List MemPlace} (ht : P.underlying t = some (.array n e)) (he : P.underlying e = some (.int k)) (hC : P.cellsOf e = 1) (hT : P.cellsOf t = n)
    (hv : Value.okWide P w r b0 t v) (h : DataW.Trod enc P w base spare held t v d p) : ∃ f : Nat → Int, v = .agg ((List.range n).map fun i => Value.int k (f i)).toArray ∧ ∀ i, i < n → (Lit.int k (f i)).wf = true := by
  obtain ⟨cs, rfl, hs⟩ := okWide_array ht hv
  obtain ⟨fuel, hf⟩ := h
  have key (i : Nat) (hi : i < n) : ∃ m, cs.toList[i]? = some (.int k m) ∧ (Lit.int k m).wf = true := by
    obtain ⟨y, m, hm⟩ := array_sub ht hf hi
    rw [hC, Nat.mul_one] at hm
    exact cell_int he hm
  refine ⟨fun i => if hi : i < n then Classical.choose (key i hi) else 0, ?_, ?_⟩
  · congr 1
    apply Array.ext'
    apply List.ext_getElem?
    intro i
    by_cases hi : i < n
    · rw [(Classical.choose_spec (key i hi)).1, List.getElem?_map, List.getElem?_range hi]
      simp [hi]
    · rw [List.getElem?_eq_none (by simp; omega), List.getElem?_eq_none (by simp; omega)]
  · intro i hi
    simp only [hi, dif_pos]
    exact (Classical.choose_spec (key i hi)).2
end
end Go.Proofs.YtflpnpppljalaaaDoor.NumC
