/-
  What the rows' listed table gives the walks.
-/
import Derived.Test.YtakamedgdiffbaaGreatDoorPPlaysNumQ
import Derived.Test.YtakamedgdiffbaaGreatDoorPPlaysGraphV2
namespace Go.Proofs.YtakamedgdiffbaaGreatDoor.GraphC
set_option linter.unusedVariables false
open Go.ChangeShapes Go.WideShapes Go.ChangeAt Go.RowKit Go.Proofs.YtakamedgdiffbaaGreatDoor.NumC
theorem gDB : Tryz.prog.globalNamed "math/bits.deBruijn64tab" = some 0 := by kernel_rfl
theorem tDB : (Tryz.prog.globals[0]?).map (·.type) = some 113 := by kernel_rfl
theorem tab_of {W : World} {l : List (String × DataW Unit)} (h : laidMet Tryz.prog l W) (h1 : l.filter (fun x => x.1 == "math/bits.deBruijn64tab") = [("math/bits.deBruijn64tab", Rows.laid_math_bits_deBruijn64tab)]) : KTab W := by
  have h2 : Lib.TabIs Tryz.prog W "math/bits.deBruijn64tab" .u8 (Lib.deBruijn64tab.map fun (n : Nat) => (n : Int)) := Lib.tabIs_of_head gDB tDB Tryz.underlying113 Tryz.underlying5 (by kernel_rfl) (by kernel_rfl) (laid_one h h1)
  intro j hj
  rw [World.var?_cell gDB h2 j, List.map_map, List.getElem?_toArray, List.getElem?_map, List.getElem?_eq_getElem hj, List.getD_eq_getElem?_getD, List.getElem?_eq_getElem hj]
  rfl
theorem kTab_ofH {W : World} (h : laidMetH Tryz.prog Rows.graphPlaysRow.laid W) : KTab W := by
  rw [MakeChecks.laidMetH_plain _ _ _ (by kernel_rfl)] at h
  exact tab_of h (by kernel_rfl)
end Go.Proofs.YtakamedgdiffbaaGreatDoor.GraphC
