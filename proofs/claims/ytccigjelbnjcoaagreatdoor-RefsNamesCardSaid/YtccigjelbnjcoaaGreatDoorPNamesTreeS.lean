/-
  Contracts of the library's errors.As at the errors that tree tells: into a placed one, and into a number.
-/
import Derived.Test.YtccigjelbnjcoaaGreatDoorPNamesTreeP0
import Derived.LaidEql
import Derived.Stop.Asserts
import Derived.RowKitTokens
namespace Go.Proofs.YtccigjelbnjcoaaGreatDoor.TreeC
set_option linter.unusedVariables false
open Go.RowKit Go.Extern.Stop Go.Stop Go.Extern Go.Proofs.YtccigjelbnjcoaaGreatDoor.NumC Go.Proofs.YtccigjelbnjcoaaGreatDoor.LexC
def hnd (t : Nat) : Value := .pointer (some ⟨9, t, none⟩)
theorem rl_m (z : Sem Value) (f : TypeId → Addr → Nat → Nat → Sem Value) (v : Value) :
    ReflectliteValue.method z f #[v] = (do match ← ReflectliteValue.parts v with | none => z | some (t, a, fl) => f t a fl (fl % 32)) := rfl
theorem rl_s (v x : Value) : ReflectliteValue.set #[v, x] = (do
    let (some (dst, a, fl), some (src, b, _)) := (← ReflectliteValue.parts v, ← ReflectliteValue.parts x)
      | unsupported (.noEntry "extern/(internal/reflectlite.Value).Set.zeroValue")
    if fl / ReflectliteValue.flagAddr % 2 == 0 then unsupported (.noEntry "extern/(internal/reflectlite.Value).Set.unaddressable")
    let val ← loadVar src b
    if ← Rtype.directlyAssignable dst src then storeVar dst a val
    else if ← Rtype.implements dst src then
      if (← Rtype.kind src) == 20 then
        match val with
        | .nilIface => unsupported (.noEntry "extern/reflectlite: a nil value of one interface type handed on as a value of another")
        | _ => storeVar dst a val
      else storeVar dst a (.iface src val)
    else panicString ("reflectlite.Set: value of type " ++ (← Rtype.spelt src) ++ " is not assignable to type " ++ (← Rtype.spelt dst))
    pure (.tuple #[])) := rfl
theorem P_valueOfT (t : Addr) (w : World) : (ReflectliteValue.unpack (.iface 88 (.pointer (some t)))).run Tryz.prog w = .ok (.agg #[hnd 88, .pointer (some ⟨w.heap.size, 0, none⟩), .int .u64 150]) (w.alloc (.cells #[.pointer (some t)] 88)) := by kernel_rfl
theorem P_typeT (a : Addr) (w : World) : (ReflectliteValue.methodAny (ReflectliteValue.valueError "reflectlite.Value.Type" 0) (fun t _ _ _ => ReflectliteType.toType t) #[.agg #[hnd 88, .pointer (some a), .int .u64 150]]).run Tryz.prog w = .ok (.iface 129 (.agg #[hnd 88])) w := by kernel_rfl
theorem P_kindT (w : World) : ((ReflectliteType.abiMethod fun t => (fun a : Nat => Value.int IntKind.u8 (a : Int)) <$> Rtype.kind t) #[hnd 88]).run Tryz.prog w = .ok (.int .u8 22) w := by kernel_rfl
theorem P_kindE (w : World) : ((ReflectliteType.abiMethod fun t => (fun a : Nat => Value.int IntKind.u8 (a : Int)) <$> Rtype.kind t) #[hnd 86]).run Tryz.prog w = .ok (.int .u8 25) w := by kernel_rfl
theorem P_partsT (a : Addr) (w : World) : (ReflectliteValue.parts (.agg #[hnd 88, .pointer (some a), .int .u64 150])).run Tryz.prog w = .ok (some (88, a, 150)) w := by kernel_rfl
theorem P_isNilT (a p : Addr) (W : World) (ha : W.cell? a = some (.pointer (some p))) :
    (ReflectliteValue.method (ReflectliteValue.valueError "reflectlite.Value.IsNil" 0) ReflectliteValue.isNil #[.agg #[hnd 88, .pointer (some a), .int .u64 150]]).run Tryz.prog W = .ok (.bool false) W := by
  rw [rl_m]
  simp only [Sem.run_bind, P_partsT, Result.andThen]
  simp [ReflectliteValue.isNil, loadVar, isAgg, underlying, Tryz.underlying88, ha, Result.andThen]
theorem P_elemT (w : World) : (ReflectliteType.method ReflectliteType.elem #[.agg #[hnd 88]]).run Tryz.prog w = .ok (.iface 129 (.agg #[hnd 86])) w := by kernel_rfl
theorem P_implements (w : World) : (ReflectliteType.relation "Implements" ReflectliteType.implements_ #[.agg #[hnd 86], .iface 129 (.agg #[hnd 69])]).run Tryz.prog w = .ok (.bool true) w := by kernel_rfl
theorem P_typeOf (v : Value) (w : World) : (ReflectliteType.typeOf #[.iface 86 v]).run Tryz.prog w = .ok (.iface 129 (.agg #[hnd 86])) w := by kernel_rfl
theorem P_assignable (w : World) : (ReflectliteType.relation "AssignableTo" ReflectliteType.assignableTo #[.agg #[hnd 86], .iface 129 (.agg #[hnd 86])]).run Tryz.prog w = .ok (.bool true) w := by kernel_rfl
theorem P_elemOf (w : World) : (Rtype.elem? 88).run Tryz.prog w = .ok (some 86) w := by kernel_rfl
theorem P_mk (p : Addr) (w : World) : (ReflectliteValue.mk 86 p ReflectliteValue.flagAddr).run Tryz.prog w = .ok (.agg #[hnd 86, .pointer (some p), .int .u64 409]) w := by kernel_rfl
theorem P_elemV (a p : Addr) (W : World) (ha : W.cell? a = some (.pointer (some p))) :
    (ReflectliteValue.method (ReflectliteValue.valueError "reflectlite.Value.Elem" 0) ReflectliteValue.elem #[.agg #[hnd 88, .pointer (some a), .int .u64 150]]).run Tryz.prog W = .ok (.agg #[hnd 86, .pointer (some p), .int .u64 409]) W := by
  rw [rl_m]
  simp only [Sem.run_bind, P_partsT, Result.andThen]
  simp [ReflectliteValue.elem, loadVar, isAgg, underlying, Tryz.underlying88, ha, Result.andThen, P_elemOf, P_mk]
theorem P_partsA (a : Addr) (w : World) : (ReflectliteValue.parts (.agg #[hnd 86, .pointer (some a), .int .u64 409])).run Tryz.prog w = .ok (some (86, a, 409)) w := by kernel_rfl
theorem P_parts (a : Addr) (w : World) : (ReflectliteValue.parts (.agg #[hnd 86, .pointer (some a), .int .u64 153])).run Tryz.prog w = .ok (some (86, a, 153)) w := by kernel_rfl
theorem P_direct (w : World) : (Rtype.directlyAssignable 86 86).run Tryz.prog w = .ok true w := by kernel_rfl
theorem E_valueOfT (t : Addr) (w : World) : (ReflectliteValue.unpack (.iface 89 (.pointer (some t)))).run Tryz.prog w = .ok (.agg #[hnd 89, .pointer (some ⟨w.heap.size, 0, none⟩), .int .u64 150]) (w.alloc (.cells #[.pointer (some t)] 89)) := by kernel_rfl
theorem E_typeT (a : Addr) (w : World) : (ReflectliteValue.methodAny (ReflectliteValue.valueError "reflectlite.Value.Type" 0) (fun t _ _ _ => ReflectliteType.toType t) #[.agg #[hnd 89, .pointer (some a), .int .u64 150]]).run Tryz.prog w = .ok (.iface 129 (.agg #[hnd 89])) w := by kernel_rfl
theorem E_kindT (w : World) : ((ReflectliteType.abiMethod fun t => (fun a : Nat => Value.int IntKind.u8 (a : Int)) <$> Rtype.kind t) #[hnd 89]).run Tryz.prog w = .ok (.int .u8 22) w := by kernel_rfl
theorem E_kindE (w : World) : ((ReflectliteType.abiMethod fun t => (fun a : Nat => Value.int IntKind.u8 (a : Int)) <$> Rtype.kind t) #[hnd 49]).run Tryz.prog w = .ok (.int .u8 2) w := by kernel_rfl
theorem E_partsT (a : Addr) (w : World) : (ReflectliteValue.parts (.agg #[hnd 89, .pointer (some a), .int .u64 150])).run Tryz.prog w = .ok (some (89, a, 150)) w := by kernel_rfl
theorem E_isNilT (a p : Addr) (W : World) (ha : W.cell? a = some (.pointer (some p))) :
    (ReflectliteValue.method (ReflectliteValue.valueError "reflectlite.Value.IsNil" 0) ReflectliteValue.isNil #[.agg #[hnd 89, .pointer (some a), .int .u64 150]]).run Tryz.prog W = .ok (.bool false) W := by
  rw [rl_m]
  simp only [Sem.run_bind, E_partsT, Result.andThen]
  simp [ReflectliteValue.isNil, loadVar, isAgg, underlying, Tryz.underlying89, ha, Result.andThen]
theorem E_elemT (w : World) : (ReflectliteType.method ReflectliteType.elem #[.agg #[hnd 89]]).run Tryz.prog w = .ok (.iface 129 (.agg #[hnd 49])) w := by kernel_rfl
theorem E_implements (w : World) : (ReflectliteType.relation "Implements" ReflectliteType.implements_ #[.agg #[hnd 49], .iface 129 (.agg #[hnd 69])]).run Tryz.prog w = .ok (.bool true) w := by kernel_rfl
theorem E_typeOf (v : Value) (w : World) : (ReflectliteType.typeOf #[.iface 49 v]).run Tryz.prog w = .ok (.iface 129 (.agg #[hnd 49])) w := by kernel_rfl
theorem E_assignable (w : World) : (ReflectliteType.relation "AssignableTo" ReflectliteType.assignableTo #[.agg #[hnd 49], .iface 129 (.agg #[hnd 49])]).run Tryz.prog w = .ok (.bool true) w := by kernel_rfl
theorem E_elemOf (w : World) : (Rtype.elem? 89).run Tryz.prog w = .ok (some 49) w := by kernel_rfl
theorem E_mk (p : Addr) (w : World) : (ReflectliteValue.mk 49 p ReflectliteValue.flagAddr).run Tryz.prog w = .ok (.agg #[hnd 49, .pointer (some p), .int .u64 386]) w := by kernel_rfl
theorem E_elemV (a p : Addr) (W : World) (ha : W.cell? a = some (.pointer (some p))) :
    (ReflectliteValue.method (ReflectliteValue.valueError "reflectlite.Value.Elem" 0) ReflectliteValue.elem #[.agg #[hnd 89, .pointer (some a), .int .u64 150]]).run Tryz.prog W = .ok (.agg #[hnd 49, .pointer (some p), .int .u64 386]) W := by
  rw [rl_m]
  simp only [Sem.run_bind, E_partsT, Result.andThen]
  simp [ReflectliteValue.elem, loadVar, isAgg, underlying, Tryz.underlying89, ha, Result.andThen, E_elemOf, E_mk]
theorem E_partsA (a : Addr) (w : World) : (ReflectliteValue.parts (.agg #[hnd 49, .pointer (some a), .int .u64 386])).run Tryz.prog w = .ok (some (49, a, 386)) w := by kernel_rfl
theorem E_parts (a : Addr) (w : World) : (ReflectliteValue.parts (.agg #[hnd 49, .pointer (some a), .int .u64 130])).run Tryz.prog w = .ok (some (49, a, 130)) w := by kernel_rfl
theorem E_direct (w : World) : (Rtype.directlyAssignable 49 49).run Tryz.prog w = .ok true w := by kernel_rfl
theorem P_valueOf (a n : Int) (w : World) : (ReflectliteValue.unpack (.iface 86 (.agg #[.int .i64 a, .int .i64 n]))).run Tryz.prog w = .ok (.agg #[hnd 86, .pointer (some ⟨w.heap.size, 0, none⟩), .int .u64 153]) (w.alloc (.cells #[.int .i64 a, .int .i64 n] 86)) := by kernel_rfl
theorem E_valueOf (n : Int) (w : World) : (ReflectliteValue.unpack (.iface 49 (.int .i64 n))).run Tryz.prog w = .ok (.agg #[hnd 49, .pointer (some ⟨w.heap.size, 0, none⟩), .int .u64 130]) (w.alloc (.cells #[.int .i64 n] 49)) := by kernel_rfl
theorem not_assignable (w : World) : (ReflectliteType.relation "AssignableTo" ReflectliteType.assignableTo #[.agg #[hnd 49], .iface 129 (.agg #[hnd 86])]).run Tryz.prog w = .ok (.bool false) w := by kernel_rfl
theorem not_assignable2 (w : World) : (ReflectliteType.relation "AssignableTo" ReflectliteType.assignableTo #[.agg #[hnd 86], .iface 129 (.agg #[hnd 49])]).run Tryz.prog w = .ok (.bool false) w := by kernel_rfl
theorem m_kind (h : Value) (w : World) : (Go.method 336 129 (.agg #[h]) "Kind").run Tryz.prog w = .ok (192, h) w := by kernel_rfl
theorem m_elem (h : Value) (w : World) : (Go.method 336 129 (.agg #[h]) "Elem").run Tryz.prog w = .ok (205, .agg #[h]) w := by kernel_rfl
theorem m_implements (h : Value) (w : World) : (Go.method 336 129 (.agg #[h]) "Implements").run Tryz.prog w = .ok (206, .agg #[h]) w := by kernel_rfl
theorem m_assignable (h : Value) (w : World) : (Go.method 336 129 (.agg #[h]) "AssignableTo").run Tryz.prog w = .ok (203, .agg #[h]) w := by kernel_rfl
theorem E_set (ta b : Addr) (n : Int) (old : Value) (W : World) (hb : W.cell? b = some (.int .i64 n)) (ht : W.cell? ta = some old) (hf : W.frozen? ta = false) :
    (ReflectliteValue.set #[.agg #[hnd 49, .pointer (some ta), .int .u64 386], .agg #[hnd 49, .pointer (some b), .int .u64 130]]).run Tryz.prog W = .ok (.tuple #[]) (W.setCell ta (.int .i64 n)) := by
  rw [rl_s]
  simp only [Sem.run_bind, E_partsA, E_parts, Result.andThen]
  simp [ReflectliteValue.flagAddr, loadVar, isAgg, underlying, Tryz.underlying49, hb, Result.andThen, E_direct, storeVar, Value.cells, storeCells, Addr.add]
  rw [run_store Tryz.prog W ta _ _ (by rfl)]
  simp [ht, hf]
end Go.Proofs.YtccigjelbnjcoaaGreatDoor.TreeC
namespace Go.Proofs.YtccigjelbnjcoaaGreatDoor.TreeC
set_option linter.unusedVariables false
open Go.RowKit Go.Extern.Stop Go.Stop Go.Extern Go.Proofs.YtccigjelbnjcoaaGreatDoor.NumC Go.Proofs.YtccigjelbnjcoaaGreatDoor.LexC
theorem P_set (tb bb : Nat) (a n a0 n0 : Int) (W : World) (hb : W.cell? ⟨bb, 0, none⟩ = some (.int .i64 a)) (hb1 : W.cell? ⟨bb, 1, none⟩ = some (.int .i64 n)) (ht : W.cell? ⟨tb, 0, none⟩ = some (.int .i64 a0)) (ht1 : W.cell? ⟨tb, 1, none⟩ = some (.int .i64 n0)) (hf : W.frozen? ⟨tb, 0, none⟩ = false) (hf1 : W.frozen? ⟨tb, 1, none⟩ = false) :
    (ReflectliteValue.set #[.agg #[hnd 86, .pointer (some ⟨tb, 0, none⟩), .int .u64 409], .agg #[hnd 86, .pointer (some ⟨bb, 0, none⟩), .int .u64 153]]).run Tryz.prog W = .ok (.tuple #[]) ((W.setCell ⟨tb, 0, none⟩ (.int .i64 a)).setCell ⟨tb, 1, none⟩ (.int .i64 n)) := by
  rw [rl_s]
  simp only [Sem.run_bind, P_partsA, P_parts, Result.andThen]
  simp [ReflectliteValue.flagAddr, loadVar, isAgg, underlying, Tryz.underlying86, Result.andThen, P_direct, storeVar, Value.cells, storeCells, Addr.add]
  simp [go_sem, loadCells, loadCellsFrom, hb, hb1, ht, ht1, hf, hf1]
theorem a2_old {w : World} {b : Nat} (hb : b < w.heap.size) (X Y : Obj) (i : Nat) : ((w.alloc X).alloc Y).cell? ⟨b, i, none⟩ = w.cell? ⟨b, i, none⟩ ∧ ((w.alloc X).alloc Y).frozen? ⟨b, i, none⟩ = w.frozen? ⟨b, i, none⟩ := by
  constructor
  · rw [World.cell?_alloc_lt _ _ ⟨b, i, none⟩ (by simp; omega), World.cell?_alloc_lt _ _ ⟨b, i, none⟩ hb]
  · rw [World.frozen?_alloc_old _ _ ⟨b, i, none⟩ (by simp; omega), World.frozen?_alloc_old _ _ ⟨b, i, none⟩ (Nat.ne_of_lt hb)]
theorem no_as_P (v : Value) (w : World) : (Instr.typeAssert (.iface 86 v) 69 134 true).run Tryz.prog w = .ok (.tuple #[.nilIface, .bool false]) w := run_typeAssert_lacksB Tryz.underlying134 (by kernel_rfl) (by kernel_rfl) v _ w
theorem no_as_E (v : Value) (w : World) : (Instr.typeAssert (.iface 49 v) 69 134 true).run Tryz.prog w = .ok (.tuple #[.nilIface, .bool false]) w := run_typeAssert_lacksB Tryz.underlying134 (by kernel_rfl) (by kernel_rfl) v _ w
theorem no_un_E (v : Value) (w : World) : (Instr.typeAssert (.iface 49 v) 69 137 true).run Tryz.prog w = .ok (.tuple #[.nilIface, .bool false]) w := run_typeAssert_lacksB Tryz.underlying137 (by kernel_rfl) (by kernel_rfl) v _ w
theorem no_us_E (v : Value) (w : World) : (Instr.typeAssert (.iface 49 v) 69 138 true).run Tryz.prog w = .ok (.tuple #[.nilIface, .bool false]) w := run_typeAssert_lacksB Tryz.underlying138 (by kernel_rfl) (by kernel_rfl) v _ w
theorem un_P (v : Value) (w : World) : (Instr.typeAssert (.iface 86 v) 69 137 true).run Tryz.prog w = .ok (.tuple #[.iface 86 v, .bool true]) w := run_typeAssert_hasB Tryz.underlying137 (by kernel_rfl) v _ w
theorem m_unwrap (a n : Value) (w : World) : (Go.method 336 86 (.agg #[a, n]) "Unwrap").run Tryz.prog w = .ok (197, .agg #[a, n]) w := by kernel_rfl
set_option maxRecDepth 100000 in
set_option maxHeartbeats 1000000 in
theorem as_P (a n a0 n0 : Int) (tb : Nat) (va : Addr) (t : Value) (w : World) (hv : w.cell? va = some (.pointer (some ⟨tb, 0, none⟩))) (ht : w.cell? ⟨tb, 0, none⟩ = some (.int .i64 a0)) (ht1 : w.cell? ⟨tb, 1, none⟩ = some (.int .i64 n0)) (hf : w.frozen? ⟨tb, 0, none⟩ = false) (hf1 : w.frozen? ⟨tb, 1, none⟩ = false) :
    Calls Tryz.prog 85 #[.iface 86 (.agg #[.int .i64 a, .int .i64 n]), t, .agg #[hnd 88, .pointer (some va), .int .u64 150], .iface 129 (.agg #[hnd 86])] w fun e w' => e = .returned (.bool true) ∧ Kept tb w w' ∧
      w'.cell? ⟨tb, 0, none⟩ = some (.int .i64 a) ∧ w'.cell? ⟨tb, 1, none⟩ = some (.int .i64 n) := by
  have x0 := @run_callFunc_extern Tryz.prog 103 _ ReflectliteType.typeOf Tryz.func103 (by kernel_rfl) (by kernel_rfl) (by kernel_rfl) (by kernel_rfl)
  have x1 := @run_callFunc_extern Tryz.prog 203 _ (ReflectliteType.relation "AssignableTo" ReflectliteType.assignableTo) Tryz.func203 (by kernel_rfl) (by kernel_rfl) (by kernel_rfl) (by kernel_rfl)
  have x2 := @run_callFunc_extern Tryz.prog 104 _ (ReflectliteValue.method (ReflectliteValue.valueError "reflectlite.Value.Elem" 0) ReflectliteValue.elem) Tryz.func104 (by kernel_rfl) (by kernel_rfl) (by kernel_rfl) (by kernel_rfl)
  have x3 := @run_callFunc_extern Tryz.prog 82 _ (fun args => ReflectliteValue.unpack (args.getD 0 (.tuple #[]))) Tryz.func82 (by kernel_rfl) (by kernel_rfl) (by kernel_rfl) (by kernel_rfl)
  have x4 := @run_callFunc_extern Tryz.prog 105 _ ReflectliteValue.set Tryz.func105 (by kernel_rfl) (by kernel_rfl) (by kernel_rfl) (by kernel_rfl)
  have tO := P_typeOf
  have mA := m_assignable
  have aP := P_assignable
  have vO := P_valueOf
  have hva : va.block < w.heap.size := World.block_lt_of_cell? w _ hv
  have htb : tb < w.heap.size := World.block_lt_of_cell? w _ ht
  have eV := P_elemV va ⟨tb, 0, none⟩ (w.alloc (.cells #[hnd 88, .pointer (some va), .int .u64 150] 104)) (by rw [World.cell?_alloc_lt _ _ va hva]; exact hv)
  have q := fun i => a2_old htb (.cells #[hnd 88, .pointer (some va), .int .u64 150] 104) (.cells #[.int .i64 a, .int .i64 n] 86) i
  have st := P_set tb (w.heap.size + 1) a n a0 n0 ((w.alloc (.cells #[hnd 88, .pointer (some va), .int .u64 150] 104)).alloc (.cells #[.int .i64 a, .int .i64 n] 86)) (by simp) (by simp) ((q 0).1.trans ht) ((q 1).1.trans ht1) ((q 0).2.trans hf) ((q 1).2.trans hf1)
  clear q
  go_enter Tryz.func85, Tryz.ntmps85
  go_wp2
  refine wp_loop_rounds 1 ?_
  rw [rounds_succ]
  go_wp2
  go_ret
  refine ⟨rfl, ?_, ?_, ?_⟩
  · repeat (first | with_reducible exact Kept.refl _ _ | with_reducible refine Kept.setCell ?_ _ _ | with_reducible refine Kept.alloc ?_ _)
  · exact (((Kept.refl w.heap.size _).alloc _).alloc _).cell (by omega) (by simp [go_sem, ht])
  · exact (((Kept.refl w.heap.size _).alloc _).alloc _).cell (by omega) (by simp [go_sem, ht1])
set_option maxRecDepth 100000 in
set_option maxHeartbeats 1000000 in
theorem as_E (n n0 : Int) (tb : Nat) (va : Addr) (t : Value) (w : World) (hv : w.cell? va = some (.pointer (some ⟨tb, 0, none⟩))) (ht : w.cell? ⟨tb, 0, none⟩ = some (.int .i64 n0)) (hf : w.frozen? ⟨tb, 0, none⟩ = false) :
    Calls Tryz.prog 85 #[.iface 49 (.int .i64 n), t, .agg #[hnd 89, .pointer (some va), .int .u64 150], .iface 129 (.agg #[hnd 49])] w fun e w' => e = .returned (.bool true) ∧ Kept tb w w' ∧
      w'.cell? ⟨tb, 0, none⟩ = some (.int .i64 n) := by
  have x0 := @run_callFunc_extern Tryz.prog 103 _ ReflectliteType.typeOf Tryz.func103 (by kernel_rfl) (by kernel_rfl) (by kernel_rfl) (by kernel_rfl)
  have x1 := @run_callFunc_extern Tryz.prog 203 _ (ReflectliteType.relation "AssignableTo" ReflectliteType.assignableTo) Tryz.func203 (by kernel_rfl) (by kernel_rfl) (by kernel_rfl) (by kernel_rfl)
  have x2 := @run_callFunc_extern Tryz.prog 104 _ (ReflectliteValue.method (ReflectliteValue.valueError "reflectlite.Value.Elem" 0) ReflectliteValue.elem) Tryz.func104 (by kernel_rfl) (by kernel_rfl) (by kernel_rfl) (by kernel_rfl)
  have x3 := @run_callFunc_extern Tryz.prog 82 _ (fun args => ReflectliteValue.unpack (args.getD 0 (.tuple #[]))) Tryz.func82 (by kernel_rfl) (by kernel_rfl) (by kernel_rfl) (by kernel_rfl)
  have x4 := @run_callFunc_extern Tryz.prog 105 _ ReflectliteValue.set Tryz.func105 (by kernel_rfl) (by kernel_rfl) (by kernel_rfl) (by kernel_rfl)
  have tO := E_typeOf
  have mA := m_assignable
  have aP := E_assignable
  have vO := E_valueOf
  have hva : va.block < w.heap.size := World.block_lt_of_cell? w _ hv
  have htb : tb < w.heap.size := World.block_lt_of_cell? w _ ht
  have eV := E_elemV va ⟨tb, 0, none⟩ (w.alloc (.cells #[hnd 89, .pointer (some va), .int .u64 150] 104)) (by rw [World.cell?_alloc_lt _ _ va hva]; exact hv)
  have q := fun i => a2_old htb (.cells #[hnd 89, .pointer (some va), .int .u64 150] 104) (.cells #[.int .i64 n] 49) i
  have st := E_set ⟨tb, 0, none⟩ ⟨w.heap.size + 1, 0, none⟩ n (.int .i64 n0) ((w.alloc (.cells #[hnd 89, .pointer (some va), .int .u64 150] 104)).alloc (.cells #[.int .i64 n] 49)) (by simp) ((q 0).1.trans ht) ((q 0).2.trans hf)
  clear q
  go_enter Tryz.func85, Tryz.ntmps85
  go_wp2
  refine wp_loop_rounds 1 ?_
  rw [rounds_succ]
  go_wp2
  go_ret
  refine ⟨rfl, ?_, ?_⟩
  · repeat (first | with_reducible exact Kept.refl _ _ | with_reducible refine Kept.setCell ?_ _ _ | with_reducible refine Kept.alloc ?_ _)
  · exact (((Kept.refl w.heap.size _).alloc _).alloc _).cell (by omega) (by simp [go_sem, ht])
set_option maxRecDepth 100000 in
set_option maxHeartbeats 1000000 in
theorem as_EP (n : Int) (va : Value) (t : Value) (w : World) :
    Calls Tryz.prog 85 #[.iface 49 (.int .i64 n), t, .agg #[hnd 88, va, .int .u64 150], .iface 129 (.agg #[hnd 86])] w fun e w' => e = .returned (.bool false) ∧ Below w.heap.size w w' := by
  have x0 := @run_callFunc_extern Tryz.prog 103 _ ReflectliteType.typeOf Tryz.func103 (by kernel_rfl) (by kernel_rfl) (by kernel_rfl) (by kernel_rfl)
  have x1 := @run_callFunc_extern Tryz.prog 203 _ (ReflectliteType.relation "AssignableTo" ReflectliteType.assignableTo) Tryz.func203 (by kernel_rfl) (by kernel_rfl) (by kernel_rfl) (by kernel_rfl)
  have tO := E_typeOf
  have mA := m_assignable
  have aP := not_assignable
  have n1 := no_as_E
  have n2 := no_un_E
  have n3 := no_us_E
  go_enter Tryz.func85, Tryz.ntmps85
  go_wp2
  refine wp_loop_rounds 1 ?_
  rw [rounds_succ]
  go_wp2
  go_ret
  exact ⟨rfl, (Below.refl _ _).alloc (Nat.le_refl _) _⟩
set_option maxRecDepth 100000 in
set_option maxHeartbeats 1000000 in
theorem unwrap_P (a n : Int) (w : World) : Calls Tryz.prog 197 #[.agg #[.int .i64 a, .int .i64 n]] w fun e w' => e = .returned (.iface 49 (.int .i64 n)) ∧ w' = w.alloc (.cells #[.int .i64 a, .int .i64 n] 86) := by
  go_enter Tryz.func197, Tryz.ntmps197
  go_wp2
  go_ret
  exact ⟨rfl, rfl⟩
set_option maxRecDepth 100000 in
set_option maxHeartbeats 1000000 in
theorem as_PE (a n n0 : Int) (tb : Nat) (va : Addr) (t : Value) (w : World) (hv : w.cell? va = some (.pointer (some ⟨tb, 0, none⟩))) (ht : w.cell? ⟨tb, 0, none⟩ = some (.int .i64 n0)) (hf : w.frozen? ⟨tb, 0, none⟩ = false) :
    Calls Tryz.prog 85 #[.iface 86 (.agg #[.int .i64 a, .int .i64 n]), t, .agg #[hnd 89, .pointer (some va), .int .u64 150], .iface 129 (.agg #[hnd 49])] w fun e w' => e = .returned (.bool true) ∧ Kept tb w w' ∧
      w'.cell? ⟨tb, 0, none⟩ = some (.int .i64 n) := by
  have x0 := @run_callFunc_extern Tryz.prog 103 _ ReflectliteType.typeOf Tryz.func103 (by kernel_rfl) (by kernel_rfl) (by kernel_rfl) (by kernel_rfl)
  have x1 := @run_callFunc_extern Tryz.prog 203 _ (ReflectliteType.relation "AssignableTo" ReflectliteType.assignableTo) Tryz.func203 (by kernel_rfl) (by kernel_rfl) (by kernel_rfl) (by kernel_rfl)
  have x2 := @run_callFunc_extern Tryz.prog 104 _ (ReflectliteValue.method (ReflectliteValue.valueError "reflectlite.Value.Elem" 0) ReflectliteValue.elem) Tryz.func104 (by kernel_rfl) (by kernel_rfl) (by kernel_rfl) (by kernel_rfl)
  have x3 := @run_callFunc_extern Tryz.prog 82 _ (fun args => ReflectliteValue.unpack (args.getD 0 (.tuple #[]))) Tryz.func82 (by kernel_rfl) (by kernel_rfl) (by kernel_rfl) (by kernel_rfl)
  have x4 := @run_callFunc_extern Tryz.prog 105 _ ReflectliteValue.set Tryz.func105 (by kernel_rfl) (by kernel_rfl) (by kernel_rfl) (by kernel_rfl)
  have tO := P_typeOf
  have tO2 := E_typeOf
  have mA := m_assignable
  have aP := E_assignable
  have aN := not_assignable2
  have vO := E_valueOf
  have n1 := no_as_P
  have n2 := un_P
  have mU := m_unwrap
  have hva : va.block < w.heap.size := World.block_lt_of_cell? w _ hv
  have htb : tb < w.heap.size := World.block_lt_of_cell? w _ ht
  have eV := E_elemV va ⟨tb, 0, none⟩ ((w.alloc (.cells #[hnd 89, .pointer (some va), .int .u64 150] 104)).alloc (.cells #[.int .i64 a, .int .i64 n] 86)) (by rw [World.cell?_alloc_lt _ _ va (by simp; omega), World.cell?_alloc_lt _ _ va hva]; exact hv)
  have hz : ((w.alloc (.cells #[hnd 89, .pointer (some va), .int .u64 150] 104)).alloc (.cells #[.int .i64 a, .int .i64 n] 86)).heap.size = w.heap.size + 2 := by simp
  have q := fun i => a2_old htb (.cells #[hnd 89, .pointer (some va), .int .u64 150] 104) (.cells #[.int .i64 a, .int .i64 n] 86) i
  have st := E_set ⟨tb, 0, none⟩ ⟨w.heap.size + 2, 0, none⟩ n (.int .i64 n0) (((w.alloc (.cells #[hnd 89, .pointer (some va), .int .u64 150] 104)).alloc (.cells #[.int .i64 a, .int .i64 n] 86)).alloc (.cells #[.int .i64 n] 49)) (by rw [World.cell?_alloc_at _ _ _ _ (by simp)]; rfl) (by rw [World.cell?_alloc_lt _ _ ⟨tb, 0, none⟩ (by simp; omega)]; exact (q 0).1.trans ht) (by rw [World.frozen?_alloc_old _ _ ⟨tb, 0, none⟩ (by simp; omega)]; exact (q 0).2.trans hf)
  clear q hz
  go_enter Tryz.func85, Tryz.ntmps85
  go_wp2
  refine wp_loop_rounds 2 ?_
  rw [rounds_succ]
  go_wp2_with (first | (go_at_call 197; refine (unwrap_P a n _).mono ?_; rintro e w2 ⟨rfl, rfl⟩))
  rw [rounds_succ]
  go_wp2
  go_ret
  refine ⟨rfl, ?_, ?_⟩
  · repeat (first | with_reducible exact Kept.refl _ _ | with_reducible refine Kept.setCell ?_ _ _ | with_reducible refine Kept.alloc ?_ _)
  · have hq : (((w.alloc (.cells #[hnd 89, .pointer (some va), .int .u64 150] 104)).alloc (.cells #[.int .i64 a, .int .i64 n] 86)).alloc (.cells #[.int .i64 n] 49)).cell? ⟨tb, 0, none⟩ = some (.int .i64 n0) := ((((Kept.refl w.heap.size w).alloc _).alloc _).alloc _).cell (Nat.ne_of_lt htb) ht
    simp [go_sem, hq]
end Go.Proofs.YtccigjelbnjcoaaGreatDoor.TreeC
namespace Go.Proofs.YtccigjelbnjcoaaGreatDoor.TreeC
set_option linter.unusedVariables false
open Go.RowKit Go.Extern.Stop Go.Stop Go.Extern Go.Proofs.YtccigjelbnjcoaaGreatDoor.NumC Go.Proofs.YtccigjelbnjcoaaGreatDoor.LexC
def ErrT (w : World) : Prop := w.cell? ⟨0, 0, none⟩ = some (.iface 129 (.agg #[hnd 69]))
theorem ErrT.below {w w' : World} (h : ErrT w) (hb : Below w.heap.size w w') : ErrT w' := cell_later hb h
set_option maxRecDepth 100000 in
set_option maxHeartbeats 1000000 in
theorem P_As (T : TypeId) (u : Value) (tb : Nat) (b : Bool) (R : World → Prop) (w : World) (hg : ErrT w) (htb : tb < w.heap.size)
    (h : ∀ w' (va : Addr) (t : Value), Below w.heap.size w w' → w'.cell? va = some (.pointer (some ⟨tb, 0, none⟩)) → w.heap.size ≤ va.block →
      Calls Tryz.prog 85 #[.iface T u, t, .agg #[hnd 88, .pointer (some va), .int .u64 150], .iface 129 (.agg #[hnd 86])] w' fun e w'' => e = .returned (.bool b) ∧ R w'') :
    Calls Tryz.prog 62 #[.iface T u, .iface 88 (.pointer (some ⟨tb, 0, none⟩))] w fun e w' => e = .returned (.bool b) ∧ R w' := by
  have x0 := @run_callFunc_extern Tryz.prog 82 _ (fun args => ReflectliteValue.unpack (args.getD 0 (.tuple #[]))) Tryz.func82 (by kernel_rfl) (by kernel_rfl) (by kernel_rfl) (by kernel_rfl)
  have x1 := @run_callFunc_extern Tryz.prog 83 _ (ReflectliteValue.methodAny (ReflectliteValue.valueError "reflectlite.Value.Type" 0) (fun t _ _ _ => ReflectliteType.toType t)) Tryz.func83 (by kernel_rfl) (by kernel_rfl) (by kernel_rfl) (by kernel_rfl)
  have x2 := @run_callFunc_extern Tryz.prog 84 _ (ReflectliteValue.method (ReflectliteValue.valueError "reflectlite.Value.IsNil" 0) ReflectliteValue.isNil) Tryz.func84 (by kernel_rfl) (by kernel_rfl) (by kernel_rfl) (by kernel_rfl)
  have x3 := @run_callFunc_extern Tryz.prog 192 _ (ReflectliteType.abiMethod fun t => do pure (.int .u8 (← Rtype.kind t))) Tryz.func192 (by kernel_rfl) (by kernel_rfl) (by kernel_rfl) (by kernel_rfl)
  have x4 := @run_callFunc_extern Tryz.prog 205 _ (ReflectliteType.method ReflectliteType.elem) Tryz.func205 (by kernel_rfl) (by kernel_rfl) (by kernel_rfl) (by kernel_rfl)
  have x5 := @run_callFunc_extern Tryz.prog 206 _ (ReflectliteType.relation "Implements" ReflectliteType.implements_) Tryz.func206 (by kernel_rfl) (by kernel_rfl) (by kernel_rfl) (by kernel_rfl)
  have vT := P_valueOfT
  have tT := P_typeT
  have mK := m_kind
  have mE := m_elem
  have mI := m_implements
  have kT := P_kindT
  have kE := P_kindE
  have eT := P_elemT
  have iE := P_implements
  have h0 : 0 < w.heap.size := World.block_lt_of_cell? w _ hg
  have nI := P_isNilT ⟨w.heap.size, 0, none⟩ ⟨tb, 0, none⟩ ((w.alloc (.cells #[.pointer (some ⟨tb, 0, none⟩)] 88)).alloc (.cells #[hnd 88, .pointer (some ⟨w.heap.size, 0, none⟩), .int .u64 150] 104)) (by simp)
  have hB : Below w.heap.size w ((w.alloc (.cells #[.pointer (some ⟨tb, 0, none⟩)] 88)).alloc (.cells #[hnd 88, .pointer (some ⟨w.heap.size, 0, none⟩), .int .u64 150] 104)) := ((Below.refl _ _).alloc (Nat.le_refl _) _).alloc (by simp) _
  have hg2 : ((w.alloc (.cells #[.pointer (some ⟨tb, 0, none⟩)] 88)).alloc (.cells #[hnd 88, .pointer (some ⟨w.heap.size, 0, none⟩), .int .u64 150] 104)).cell? ⟨0, 0, none⟩ = some (.iface 129 (.agg #[hnd 69])) := cell_later hB hg
  have HH := Lib.hid h
  clear h
  unfold hnd at vT tT kT kE eT iE nI hg2 hB HH
  have hva : ((w.alloc (.cells #[.pointer (some ⟨tb, 0, none⟩)] 88)).alloc (.cells #[.pointer (some ⟨9, 88, none⟩), .pointer (some ⟨w.heap.size, 0, none⟩), .int .u64 150] 104)).cell? ⟨w.heap.size, 0, none⟩ = some (.pointer (some ⟨tb, 0, none⟩)) := by simp
  go_enter Tryz.func62, Tryz.ntmps62
  go_wp2_with (go_at_call 85; refine (HH.out _ ⟨w.heap.size, 0, none⟩ _ hB hva (Nat.le_refl _)).mono ?_; rintro e w2 ⟨rfl, hR⟩)
  go_ret
  exact ⟨rfl, hR⟩
set_option maxRecDepth 100000 in
set_option maxHeartbeats 1000000 in
theorem E_As (T : TypeId) (u : Value) (tb : Nat) (b : Bool) (R : World → Prop) (w : World) (hg : ErrT w) (htb : tb < w.heap.size)
    (h : ∀ w' (va : Addr) (t : Value), Below w.heap.size w w' → w'.cell? va = some (.pointer (some ⟨tb, 0, none⟩)) → w.heap.size ≤ va.block →
      Calls Tryz.prog 85 #[.iface T u, t, .agg #[hnd 89, .pointer (some va), .int .u64 150], .iface 129 (.agg #[hnd 49])] w' fun e w'' => e = .returned (.bool b) ∧ R w'') :
    Calls Tryz.prog 62 #[.iface T u, .iface 89 (.pointer (some ⟨tb, 0, none⟩))] w fun e w' => e = .returned (.bool b) ∧ R w' := by
  have x0 := @run_callFunc_extern Tryz.prog 82 _ (fun args => ReflectliteValue.unpack (args.getD 0 (.tuple #[]))) Tryz.func82 (by kernel_rfl) (by kernel_rfl) (by kernel_rfl) (by kernel_rfl)
  have x1 := @run_callFunc_extern Tryz.prog 83 _ (ReflectliteValue.methodAny (ReflectliteValue.valueError "reflectlite.Value.Type" 0) (fun t _ _ _ => ReflectliteType.toType t)) Tryz.func83 (by kernel_rfl) (by kernel_rfl) (by kernel_rfl) (by kernel_rfl)
  have x2 := @run_callFunc_extern Tryz.prog 84 _ (ReflectliteValue.method (ReflectliteValue.valueError "reflectlite.Value.IsNil" 0) ReflectliteValue.isNil) Tryz.func84 (by kernel_rfl) (by kernel_rfl) (by kernel_rfl) (by kernel_rfl)
  have x3 := @run_callFunc_extern Tryz.prog 192 _ (ReflectliteType.abiMethod fun t => do pure (.int .u8 (← Rtype.kind t))) Tryz.func192 (by kernel_rfl) (by kernel_rfl) (by kernel_rfl) (by kernel_rfl)
  have x4 := @run_callFunc_extern Tryz.prog 205 _ (ReflectliteType.method ReflectliteType.elem) Tryz.func205 (by kernel_rfl) (by kernel_rfl) (by kernel_rfl) (by kernel_rfl)
  have x5 := @run_callFunc_extern Tryz.prog 206 _ (ReflectliteType.relation "Implements" ReflectliteType.implements_) Tryz.func206 (by kernel_rfl) (by kernel_rfl) (by kernel_rfl) (by kernel_rfl)
  have vT := E_valueOfT
  have tT := E_typeT
  have mK := m_kind
  have mE := m_elem
  have mI := m_implements
  have kT := E_kindT
  have kE := E_kindE
  have eT := E_elemT
  have iE := E_implements
  have h0 : 0 < w.heap.size := World.block_lt_of_cell? w _ hg
  have nI := E_isNilT ⟨w.heap.size, 0, none⟩ ⟨tb, 0, none⟩ ((w.alloc (.cells #[.pointer (some ⟨tb, 0, none⟩)] 89)).alloc (.cells #[hnd 89, .pointer (some ⟨w.heap.size, 0, none⟩), .int .u64 150] 104)) (by simp)
  have hB : Below w.heap.size w ((w.alloc (.cells #[.pointer (some ⟨tb, 0, none⟩)] 89)).alloc (.cells #[hnd 89, .pointer (some ⟨w.heap.size, 0, none⟩), .int .u64 150] 104)) := ((Below.refl _ _).alloc (Nat.le_refl _) _).alloc (by simp) _
  have hg2 : ((w.alloc (.cells #[.pointer (some ⟨tb, 0, none⟩)] 89)).alloc (.cells #[hnd 89, .pointer (some ⟨w.heap.size, 0, none⟩), .int .u64 150] 104)).cell? ⟨0, 0, none⟩ = some (.iface 129 (.agg #[hnd 69])) := cell_later hB hg
  have HH := Lib.hid h
  clear h
  unfold hnd at vT tT kT kE eT iE nI hg2 hB HH
  have hva : ((w.alloc (.cells #[.pointer (some ⟨tb, 0, none⟩)] 89)).alloc (.cells #[.pointer (some ⟨9, 89, none⟩), .pointer (some ⟨w.heap.size, 0, none⟩), .int .u64 150] 104)).cell? ⟨w.heap.size, 0, none⟩ = some (.pointer (some ⟨tb, 0, none⟩)) := by simp
  go_enter Tryz.func62, Tryz.ntmps62
  go_wp2_with (go_at_call 85; refine (HH.out _ ⟨w.heap.size, 0, none⟩ _ hB hva (Nat.le_refl _)).mono ?_; rintro e w2 ⟨rfl, hR⟩)
  go_ret
  exact ⟨rfl, hR⟩
set_option maxRecDepth 100000 in
set_option maxHeartbeats 1000000 in
theorem cplaceOf (b : Bad) (hi : IsBad b) (w : World) (hg : ErrT w) :
    Calls Tryz.prog 46 #[errV b] w fun e w' => e = .returned (.int .i64 b.2) ∧ Kept w.heap.size w w' := by
  have hb1 : Below w.heap.size w (w.alloc (.cells #[.int .i64 0, .int .i64 0] 86)) := (Below.refl _ _).alloc (Nat.le_refl _) _
  rcases hi with h | rfl
  · have hT : errV b = .iface 86 (.agg #[.int .i64 b.2, .int .i64 13]) := by unfold errV; rw [if_neg (by rw [h]; decide)]
    rw [hT]
    go_enter Tryz.func46, Tryz.ntmps46
    go_wp2_with fail
    refine (P_As 86 _ w.heap.size true (fun w' => Kept w.heap.size (w.alloc (.cells #[.int .i64 0, .int .i64 0] 86)) w' ∧ w'.cell? ⟨w.heap.size, 0, none⟩ = some (.int .i64 b.2)) (w.alloc (.cells #[.int .i64 0, .int .i64 0] 86)) (hg.below hb1) (by simp) (fun w' va t hb hv hge => ?_)).mono ?_
    · have hc (i : Nat) (hi : i = 0 ∨ i = 1) : w'.cell? ⟨w.heap.size, i, none⟩ = some (.int .i64 0) := by
        refine cell_later hb ?_
        rcases hi with rfl | rfl <;> simp
      have hf (i : Nat) : w'.frozen? ⟨w.heap.size, i, none⟩ = false := by
        have e := hb.block w.heap.size (by simp)
        rw [heap_alloc_new] at e
        simp [World.frozen?, e]
      refine (as_P b.2 13 0 0 w.heap.size va t w' hv (hc 0 (Or.inl rfl)) (hc 1 (Or.inr rfl)) (hf 0) (hf 1)).mono ?_
      rintro e w2 ⟨rfl, k2, q0, q1⟩
      exact ⟨rfl, (Kept.of hb).trans k2, q0⟩
    · rintro e w2 ⟨rfl, k2, q0⟩
      go_wp2_with fail
      go_ret
      exact ⟨rfl, ((Kept.refl w.heap.size w).alloc _).trans k2⟩
  · rw [errV_deep]
    go_enter Tryz.func46, Tryz.ntmps46
    go_wp2_with fail
    refine (P_As 49 _ w.heap.size false (fun w' => Below (w.alloc (.cells #[.int .i64 0, .int .i64 0] 86)).heap.size (w.alloc (.cells #[.int .i64 0, .int .i64 0] 86)) w') (w.alloc (.cells #[.int .i64 0, .int .i64 0] 86)) (hg.below hb1) (by simp) (fun w' va t hb hv hge => ?_)).mono ?_
    · refine (as_EP 14 _ t w').mono ?_
      rintro e w2 ⟨rfl, hb2⟩
      exact ⟨rfl, hb.trans (hb2.mono hb.size)⟩
    · rintro e w2 ⟨rfl, hb2⟩
      have q0 : w2.cell? ⟨w.heap.size, 0, none⟩ = some (.int .i64 0) := cell_later hb2 (by simp)
      go_wp2_with fail
      go_ret
      exact ⟨rfl, ((Kept.refl w.heap.size w).alloc _).trans (Kept.of (hb2.mono (by simp)))⟩
set_option maxRecDepth 100000 in
set_option maxHeartbeats 1000000 in
theorem cnumberOf (b : Bad) (hi : IsBad b) (w : World) (hg : ErrT w) :
    Calls Tryz.prog 47 #[errV b] w fun e w' => e = .returned (.int .i64 b.1) ∧ Kept w.heap.size w w' := by
  have hb1 : Below w.heap.size w (w.alloc (.cells #[.int .i64 0] 49)) := (Below.refl _ _).alloc (Nat.le_refl _) _
  have hc (w' : World) (hb : Below (w.alloc (.cells #[.int .i64 0] 49)).heap.size (w.alloc (.cells #[.int .i64 0] 49)) w') : w'.cell? ⟨w.heap.size, 0, none⟩ = some (.int .i64 0) ∧ w'.frozen? ⟨w.heap.size, 0, none⟩ = false := by
    refine ⟨cell_later hb (by simp), ?_⟩
    have e := hb.block w.heap.size (by simp)
    rw [heap_alloc_new] at e
    simp [World.frozen?, e]
  rcases hi with h | rfl
  · have hT : errV b = .iface 86 (.agg #[.int .i64 b.2, .int .i64 13]) := by unfold errV; rw [if_neg (by rw [h]; decide)]
    rw [hT, h]
    go_enter Tryz.func47, Tryz.ntmps47
    go_wp2_with fail
    refine (E_As 86 _ w.heap.size true (fun w' => Kept w.heap.size (w.alloc (.cells #[.int .i64 0] 49)) w' ∧ w'.cell? ⟨w.heap.size, 0, none⟩ = some (.int .i64 13)) (w.alloc (.cells #[.int .i64 0] 49)) (hg.below hb1) (by simp) (fun w' va t hb hv hge => ?_)).mono ?_
    · refine (as_PE b.2 13 0 w.heap.size va t w' hv (hc w' hb).1 (hc w' hb).2).mono ?_
      rintro e w2 ⟨rfl, k2, q0⟩
      exact ⟨rfl, (Kept.of hb).trans k2, q0⟩
    · rintro e w2 ⟨rfl, k2, q0⟩
      go_wp2_with fail
      go_ret
      exact ⟨rfl, ((Kept.refl w.heap.size w).alloc _).trans k2⟩
  · rw [errV_deep]
    go_enter Tryz.func47, Tryz.ntmps47
    go_wp2_with fail
    refine (E_As 49 _ w.heap.size true (fun w' => Kept w.heap.size (w.alloc (.cells #[.int .i64 0] 49)) w' ∧ w'.cell? ⟨w.heap.size, 0, none⟩ = some (.int .i64 14)) (w.alloc (.cells #[.int .i64 0] 49)) (hg.below hb1) (by simp) (fun w' va t hb hv hge => ?_)).mono ?_
    · refine (as_E 14 0 w.heap.size va t w' hv (hc w' hb).1 (hc w' hb).2).mono ?_
      rintro e w2 ⟨rfl, k2, q0⟩
      exact ⟨rfl, (Kept.of hb).trans k2, q0⟩
    · rintro e w2 ⟨rfl, k2, q0⟩
      go_wp2_with fail
      go_ret
      exact ⟨rfl, ((Kept.refl w.heap.size w).alloc _).trans k2⟩
end Go.Proofs.YtccigjelbnjcoaaGreatDoor.TreeC
