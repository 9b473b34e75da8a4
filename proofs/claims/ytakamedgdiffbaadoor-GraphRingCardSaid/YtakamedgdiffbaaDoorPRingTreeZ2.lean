/-
  Contract of tree's code: fits.
-/
import Derived.Test.YtakamedgdiffbaaDoorPRingAddrA
import Derived.Test.YtakamedgdiffbaaDoorPRingTreeA
import Derived.Test.YtakamedgdiffbaaDoorPRingNumG
import Derived.Test.YtakamedgdiffbaaDoorPRingNumN
import Derived.Test.YtakamedgdiffbaaDoorProg
import Derived.Test.YtakamedgdiffbaaDoorPRingNumM
import Derived.Test.YtakamedgdiffbaaDoorPRingNumR
import Derived.Test.YtakamedgdiffbaaDoorPRingTreeS
import Derived.Test.YtakamedgdiffbaaDoorPRingLexZ3
import Derived.Test.YtakamedgdiffbaaDoorPRingRefsM
import Derived.Orders
import Derived.WalkKit
import Derived.WalkSpells
import Derived.WalkLawsBesides
import Derived.Deep.QuietTactic
import Derived.BigQuiet
import Derived.Lib.Hide
import Derived.Shelf.Lay
import Derived.Deep.DeepFit
import Derived.WalkSmall
import Derived.Lib.AppendIntMem
import Derived.Lib.AtoiErrMem
import Derived.Lib.Strings
import Derived.WideShapes
import Derived.Laws.RangeAny
import Derived.Maps.AppendAt
import Derived.OwnWalk
import Derived.Deep.AppendLies
import Derived.Deep.RegionWith
import Derived.Laws.IdiomStrings
import Derived.LoopTactic
import Derived.LoopN
import Derived.IntWalk
import Derived.Laws.StructEq
namespace Go.Proofs.YtakamedgdiffbaaDoor.TreeC
set_option linter.unusedVariables false
open Go.RowKit Go.Proofs.YtakamedgdiffbaaDoor.NumC Go.Proofs.YtakamedgdiffbaaDoor.LexC
set_option maxHeartbeats 1000000 in
theorem eqIn_addr (a b a' b' : Int) (W : World) :
    (Op.equalIn 9999 24 (.agg #[.int .i64 a, .int .i64 b]) (.agg #[.int .i64 a', .int .i64 b'])).run Tryd.prog W = .ok (decide (a = a' ∧ b = b')) W := by
  have hS2 : Tryd.prog.underlying 24 = some (.struct (Tryd.prog.fieldsOf 24)) := by kernel_rfl
  have hp2 : Tryd.prog.stoodInHeld 24 = false := by kernel_rfl
  have a1 := Tryd.isAgg3; have z1 := Tryd.sizeOf3; have u1 := Tryd.underlying3
  rw [show (9999 : Nat) = 9998 + 1 from rfl, run_equalIn_agg W 9998 24 _ _ hS2 hp2]
  simp only [Program.fieldsOf, Tryd.underlying24]
  go_simp
  by_cases h1 : a = a' <;> by_cases h2 : b = b' <;> simp [h1, h2]
set_option maxHeartbeats 1000000 in
theorem eq_rect (a b c d a' b' c' d' : Int) (W : World) :
    (binOp .eql 44 (.agg #[.int .i64 a, .int .i64 b, .int .i64 c, .int .i64 d]) (.agg #[.int .i64 a', .int .i64 b', .int .i64 c', .int .i64 d'])).run Tryd.prog W = .ok (.bool (decide (a = a' ∧ b = b' ∧ c = c' ∧ d = d'))) W := by
  have hS : Tryd.prog.underlying 44 = some (.struct (Tryd.prog.fieldsOf 44)) := by kernel_rfl
  have hp : Tryd.prog.stoodInHeld 44 = false := by kernel_rfl
  rw [run_eql_struct, show (10000 : Nat) = 9999 + 1 from rfl, run_equalIn_agg W 9999 44 _ _ hS hp]
  simp only [Program.fieldsOf, Tryd.underlying44]
  have p0 : ∀ (x y z u : Int) (w : World), (part 24 #[.int .i64 x, .int .i64 y, .int .i64 z, .int .i64 u] 0).run Tryd.prog w = .ok (.agg #[.int .i64 x, .int .i64 y]) w := fun _ _ _ _ _ => by kernel_rfl
  have p2 : ∀ (x y z u : Int) (w : World), (part 24 #[.int .i64 x, .int .i64 y, .int .i64 z, .int .i64 u] 2).run Tryd.prog w = .ok (.agg #[.int .i64 z, .int .i64 u]) w := fun _ _ _ _ _ => by kernel_rfl
  simp only [Op.eqFields, Sem.run_bind, Sem.run_ite, p0, p2, eqIn_addr, Result.andThen]
  by_cases h1 : a = a' <;> by_cases h2 : b = b' <;> by_cases h3 : c = c' <;> by_cases h4 : d = d' <;> simp [h1, h2, h3, h4]
set_option maxHeartbeats 1000000 in
theorem eq_addr (a b a' b' : Int) (W : World) :
    (binOp .eql 24 (.agg #[.int .i64 a, .int .i64 b]) (.agg #[.int .i64 a', .int .i64 b'])).run Tryd.prog W = .ok (.bool (decide (a = a' ∧ b = b'))) W := by
  have hS2 : Tryd.prog.underlying 24 = some (.struct (Tryd.prog.fieldsOf 24)) := by kernel_rfl
  have hp2 : Tryd.prog.stoodInHeld 24 = false := by kernel_rfl
  have a1 := Tryd.isAgg3; have z1 := Tryd.sizeOf3; have u1 := Tryd.underlying3
  rw [run_eql_struct, show (10000 : Nat) = 9999 + 1 from rfl, run_equalIn_agg W 9999 24 _ _ hS2 hp2]
  simp only [Program.fieldsOf, Tryd.underlying24]
  go_simp
  by_cases h1 : a = a' <;> by_cases h2 : b = b' <;> simp [h1, h2]
end Go.Proofs.YtakamedgdiffbaaDoor.TreeC
namespace Go.Proofs.YtakamedgdiffbaaDoor.RefsC
set_option linter.unusedVariables false
open Go.RowKit Go.Proofs.YtakamedgdiffbaaDoor.NumC
open Go.Proofs.YtakamedgdiffbaaDoor.TreeC (eq_rect eq_addr addr_add0 addr_add below_grown)
def rcells (l : List Rc) : List Value := l.flatMap fun x => [.int .i64 x.a, .int .i64 x.b, .int .i64 x.c, .int .i64 x.d]
def OS (w : World) (B : Nat) (v : Value) (l : List Rc) : Prop := w.ownsRow B 44 4 v l.length (rcells l)
end Go.Proofs.YtakamedgdiffbaaDoor.RefsC
