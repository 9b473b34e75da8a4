/-
  What the rows' listed variables give the walks; a world in which they lie as listed.
-/
import Derived.Test.YtogahgbfdmfmcaaDoorCards
import Derived.Test.YtogahgbfdmfmcaaDoorTie
import Derived.Test.YtogahgbfdmfmcaaDoorNumD
import Derived.ProofKit
import Derived.OpenShut
import Derived.LaidMore
import Derived.Stop.Joined
import Derived.Stop.LaidErr
import Derived.Lib.LaidTab
import Derived.SevenTiedAt
namespace Go.Proofs.YtogahgbfdmfmcaaDoor.NumC
set_option linter.unusedVariables false
open Go.ChangeShapes Go.WideShapes Go.ChangeAt Go.RowKit

theorem own : ownKnob Tryd.prog.godebug = none := by kernel_rfl
theorem tTab : (Tryd.prog.globals[2]?).map (·.type) = some 94 := by kernel_rfl
theorem tSyn : (Tryd.prog.globals[0]?).map (·.type) = some 64 := by kernel_rfl
theorem tRan : (Tryd.prog.globals[1]?).map (·.type) = some 64 := by kernel_rfl
theorem cellsTab : Tryd.prog.cellsOf 94 = 20 := by kernel_rfl
theorem cellsU64 : Tryd.prog.cellsOf 67 = 1 := by kernel_rfl
theorem cellsErrS : Tryd.prog.cellsOf 102 = 1 := by kernel_rfl
theorem cellsStr : Tryd.prog.cellsOf 9 = 1 := by kernel_rfl
theorem star : "*" ++ "errors.errorString" = "*errors.errorString" := by decide
theorem rowErr (u : TypeId) (h : Tryd.prog.typeName? 3 u = some "*errors.errorString") : u = 100 :=
  typeName_ptr_named (nm := "errors.errorString") (by rw [star]; kernel_rfl) (by kernel_rfl) (by decide) u (by rw [star]; exact h)

theorem libIs_of {W : World} {x1 x2 : String × DataW Unit} (h : laidMet Tryd.prog [x1, x2, ("internal/strconv.uint64pow10", Rows.laid_internal_strconv_uint64pow10), ("strconv.ErrRange", Rows.laid_strconv_ErrRange), ("strconv.ErrSyntax", Rows.laid_strconv_ErrSyntax)] W) : LibIs W := by
  have h3 := h.tail.tail
  have h4 := h3.tail
  have h5 := h4.tail
  obtain ⟨a4, s4, v4, -, -, -⟩ := laid_sentinel h4 gRan tRan Tryd.underlying64 rowErr Tryd.underlying100 Tryd.underlying102 rfl rfl Tryd.underlying9 cellsErrS cellsStr
  obtain ⟨a5, s5, v5, -, -, -⟩ := laid_sentinel h5 gSyn tSyn Tryd.underlying64 rowErr Tryd.underlying100 Tryd.underlying102 rfl rfl Tryd.underlying9 cellsErrS cellsStr
  exact ⟨Lib.tabIs_of_head gTab tTab Tryd.underlying94 Tryd.underlying67 cellsU64 cellsTab h3, ⟨_, _, v5⟩, ⟨_, _, v4⟩⟩
theorem libIs_ofH {W : World} (h : laidMetH Tryd.prog Rows.addrNamesRow.laid W) : LibIs W := by
  rw [MakeChecks.laidMetH_plain _ _ _ (by kernel_rfl)] at h
  exact libIs_of h
theorem door_met (os : Os) (args : Array Value) : laidMetH Tryd.prog Rows.addrNamesRow.laid ((World.doorLaid Tryd.prog 400 os).forCall (fun _ _ => 0) ⟨#[], args, []⟩).memory :=
  laidMetH_of_parts3 (fuel := 8) (laidMet_of_run' 8 (by kernel_rfl) (by kernel_rfl)) (by kernel_rfl) (by kernel_rfl)
theorem i32_of_wf {a : Int} (h : (Lit.int .i32 a).wf = true) : -2147483648 ≤ a ∧ a ≤ 2147483647 := by
  simp [Lit.wf, IntKind.min, IntKind.max, IntKind.signed, IntKind.bits] at h; omega
theorem u8_of_wf {a : Int} (h : (Lit.int .u8 a).wf = true) : 0 ≤ a ∧ a ≤ 255 := by
  simp [Lit.wf, IntKind.min, IntKind.max, IntKind.signed, IntKind.bits] at h; omega
end Go.Proofs.YtogahgbfdmfmcaaDoor.NumC
