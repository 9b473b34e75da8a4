/-
  What the rows' listed table gives the walks.
-/
import Derived.Test.YtjneekkjmjhofaaDoorNumQ
import Derived.Test.YtjneekkjmjhofaaDoorCrcV
namespace Go.Proofs.YtjneekkjmjhofaaDoor.CrcC
set_option linter.unusedVariables false
open Go.ChangeShapes Go.WideShapes Go.ChangeAt Go.RowKit Go.Proofs.YtjneekkjmjhofaaDoor.NumC

theorem gFours : Tryd.prog.globalNamed "pannier/crc.fours" = some 0 := by kernel_rfl
theorem tFours : (Tryd.prog.globals[0]?).map (·.type) = some 34 := by kernel_rfl
theorem fours_of {W : World} {l : List (String × DataW Unit)} (h : laidMet Tryd.prog l W) (h1 : l.filter (fun x => x.1 == "pannier/crc.fours") = [("pannier/crc.fours", Rows.laid_pannier_crc_fours)]) : KFours W := by
  have h2 : Lib.TabIs Tryd.prog W "pannier/crc.fours" .u32 (foursL.map fun (n : Nat) => (n : Int)) := Lib.tabIs_of_head gFours tFours Tryd.underlying34 Tryd.underlying22 (by kernel_rfl) (by kernel_rfl) (laid_one h h1)
  intro j hj
  have hj : j < foursL.length := hj
  rw [World.var?_cell gFours h2 j, List.map_map, List.getElem?_toArray, List.getElem?_map, List.getElem?_eq_getElem hj, List.getD_eq_getElem?_getD, List.getElem?_eq_getElem hj]
  rfl
theorem kFours_ofH {W : World} (h : laidMetH Tryd.prog Rows.crcSumsRow.laid W) : KFours W := by
  rw [MakeChecks.laidMetH_plain _ _ _ (by kernel_rfl)] at h
  exact fours_of h (by kernel_rfl)
end Go.Proofs.YtjneekkjmjhofaaDoor.CrcC
