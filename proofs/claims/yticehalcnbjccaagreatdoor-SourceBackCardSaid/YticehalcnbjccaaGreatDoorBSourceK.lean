/-
  A value that comes in, opened to its kind, its number and its text (beside what TreeQ says of the rows).
-/
import Derived.Test.YticehalcnbjccaaGreatDoorBNumO
import Derived.Test.YticehalcnbjccaaGreatDoorBTreeQ
import Derived.Test.YticehalcnbjccaaGreatDoorBNumN
namespace Go.Proofs.YticehalcnbjccaaGreatDoor.SourceC
set_option linter.unusedVariables false
open Go.ChangeShapes Go.WideShapes Go.ChangeAt Go.RowKit Go.Proofs.YticehalcnbjccaaGreatDoor.NumC
open Go.Proofs.YticehalcnbjccaaGreatDoor.ValueC (Val)
theorem cellsInt : Tryz.prog.cellsOf 3 = 1 := by kernel_rfl
theorem cellsInt64 : Tryz.prog.cellsOf 2 = 1 := by kernel_rfl
theorem cellsString : Tryz.prog.cellsOf 9 = 1 := by kernel_rfl
theorem cellsValue : Tryz.prog.cellsOf 24 = 3 := by kernel_rfl
section
variable {H : Type} {enc : TypeId × Value → H} {P : Program} {w : World} {base : Nat} {spare : Nat → Bool} {held : Bool} {fuel : Nat} {r : Reach} {b0 : Nat} {v : Value} {d : DataW H} {p : List MemPlace}
theorem cell_string {e : TypeId} {x : DataW H × List MemPlace} (he : P.underlying e = some .string) {o : Nat} {l : List Value} (h : DataW.trod enc P w base spare held fuel e ((l.drop o).take 1) = some x) :
    ∃ s : ByteArray, l[o]? = some (.string s) ∧ s.size ≤ maxLen := by
  obtain ⟨m, h1, -, h2⟩ := DataW.trod_string he h
  refine ⟨m, ?_, h2⟩
  have : ((l.drop o).take 1)[0]? = some (.string m) := by rw [h1]; rfl
  rwa [List.getElem?_take_of_lt (by omega), List.getElem?_drop, Nat.add_zero] at this
set_option maxRecDepth 100000 in
theorem open_value (hv : Value.okWide Tryz.prog w r b0 24 v) (h : DataW.Trod enc Tryz.prog w base spare held 24 v d p) :
    ∃ a : Val, v = .agg #[.int .i64 a.k, .int .i64 a.n, .string a.s] ∧ (Lit.int .i64 a.k).wf = true ∧ (Lit.int .i64 a.n).wf = true ∧ a.s.size ≤ maxLen := by
  obtain ⟨cs, y, m, rfl, hs, hf⟩ := open_struct Tryz.underlying24 cellsValue hv h
  obtain ⟨c0, c1, c2, rfl⟩ := Joins.array3 hs
  obtain ⟨y0, n0, g0⟩ := struct_sub (i := 0) Tryz.underlying24 hf ⟨_, rfl, rfl, rfl⟩ cellsInt
  obtain ⟨y1, n1, g1⟩ := struct_sub (i := 1) Tryz.underlying24 hf ⟨_, rfl, rfl, rfl⟩ cellsInt64
  obtain ⟨y2, n2, g2⟩ := struct_sub (i := 2) Tryz.underlying24 hf ⟨_, rfl, rfl, rfl⟩ cellsString
  obtain ⟨k, h0, wk⟩ := cell_int Tryz.underlying3 g0
  obtain ⟨n, h1, wn⟩ := cell_int Tryz.underlying2 g1
  obtain ⟨s, h2, ws⟩ := cell_string Tryz.underlying9 g2
  simp at h0 h1 h2
  subst h0 h1 h2
  exact ⟨⟨k, n, s⟩, rfl, wk, wn, ws⟩
end
end Go.Proofs.YticehalcnbjccaaGreatDoor.SourceC
