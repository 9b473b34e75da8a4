/-
  Errors as values: the library's errors.As into a number (api.Errno), at a number.
-/
import Derived.Test.YtflpnpppljalaaaDoorNumR
import Derived.Test.YtflpnpppljalaaaDoorRowsC
import Derived.LaidEql
import Derived.Stop.Asserts
import Derived.RowKitTokens
namespace Go.Proofs.YtflpnpppljalaaaDoor.ErrC
set_option linter.unusedVariables false
open Go.RowKit Go.Extern.Stop Go.Stop Go.Extern Go.Proofs.YtflpnpppljalaaaDoor.NumC Go.Proofs.YtflpnpppljalaaaDoor.RowsC

/-- All blocks but x are as they were; nothing but memory has turned. -/
structure Kept (x : Nat) (w w' : World) : Prop where
  os : w'.os = w.os
  tape : w'.tape = w.tape
  output : w'.output = w.output
  size : w.heap.size ≤ w'.heap.size
  block : ∀ k, k < w.heap.size → k ≠ x → w'.heap[k]? = w.heap[k]?
theorem Kept.refl (x : Nat) (w : World) : Kept x w w := ⟨rfl, rfl, rfl, Nat.le_refl _, fun _ _ _ => rfl⟩
theorem Kept.trans {x : Nat} {a b c : World} (h : Kept x a b) (g : Kept x b c) : Kept x a c :=
  ⟨g.os.trans h.os, g.tape.trans h.tape, g.output.trans h.output, Nat.le_trans h.size g.size, fun k hk hx => (g.block k (Nat.lt_of_lt_of_le hk h.size) hx).trans (h.block k hk hx)⟩
theorem Kept.of {x : Nat} {w w' : World} (h : Below w.heap.size w w') : Kept x w w' := ⟨h.os, h.tape, h.output, h.size, fun k hk _ => h.block k hk⟩
theorem Kept.alloc {x : Nat} {a w : World} (h : Kept x a w) (o : Obj) : Kept x a (w.alloc o) := h.trans (Kept.of ((Below.refl _ _).alloc (Nat.le_refl _) o))
theorem Kept.setCell {x : Nat} {a w : World} (h : Kept x a w) (o : Nat) (v : Value) : Kept x a (w.setCell ⟨x, o, none⟩ v) := by
  have hs : (w.setCell ⟨x, o, none⟩ v).heap.size = w.heap.size := by simp [World.setCell]
  refine ⟨h.os, h.tape, h.output, by rw [hs]; exact h.size, fun k hk hx => ?_⟩
  have : (w.setCell ⟨x, o, none⟩ v).heap[k]? = w.heap[k]? := by
    simp only [World.setCell, Array.getElem?_modify]
    rw [if_neg (fun e => hx e.symm)]
  rw [this]; exact h.block k hk hx
theorem Kept.cell {x : Nat} {w w' : World} (h : Kept x w w') {b o : Nat} {v : Value} (hx : b ≠ x) (hv : w.cell? ⟨b, o, none⟩ = some v) : w'.cell? ⟨b, o, none⟩ = some v := by
  have hlt : b < w.heap.size := World.block_lt_of_cell? w _ hv
  rw [← hv]
  unfold World.cell?
  rw [h.block b hlt hx]
theorem Kept.below {x : Nat} {w W : World} (h : Kept x w W) (hx : w.heap.size ≤ x) : Below w.heap.size w W := ⟨h.os, h.tape, h.output, h.size, fun k hk => h.block k hk (by omega)⟩
/-- The handle of a type, as the model lays it. -/
def hnd (t : Nat) : Value := .pointer (some ⟨1, t, none⟩)
theorem rl_m (z : Sem Value) (f : TypeId → Addr → Nat → Nat → Sem Value) (v : Value) :
    ReflectliteValue.method z f #[v] = (do match ← ReflectliteValue.parts v with | none => z | some (t, a, fl) => f t a fl (fl % 32)) := rfl
theorem rl_s (v x : Value) : ReflectliteValue.set #[v, x] = (do
    let (some (dst, a, fl), some (src, b, _)) := (← ReflectliteValue.parts v, ← ReflectliteValue.parts x)
      | unsupported (.noEntry "extern/(internal/reflectlite.Value).Set.zeroValue")
    if fl / ReflectliteValue.flagAddr % 2 == 0 then unsupported (.noEntry "extern/(internal/reflectlite.Value).Set.unaddressable")
    let val ← loadVar src b
    if ← Rtype.directlyAssignable dst src then storeVar dst a val
    else if ← Rtype.implements dst src then
      if (← Rtype.kind src) == 20 then
        match val with
        | .nilIface => unsupported (.noEntry "extern/reflectlite: a nil value of one interface type handed on as a value of another")
        | _ => storeVar dst a val
      else storeVar dst a (.iface src val)
    else panicString ("reflectlite.Set: value of type " ++ (← Rtype.spelt src) ++ " is not assignable to type " ++ (← Rtype.spelt dst))
    pure (.tuple #[])) := rfl
theorem E_valueOfT (t : Addr) (w : World) : (ReflectliteValue.unpack (.iface 64 (.pointer (some t)))).run Tryd.prog w = .ok (.agg #[hnd 64, .pointer (some ⟨w.heap.size, 0, none⟩), .int .u64 150]) (w.alloc (.cells #[.pointer (some t)] 64)) := by kernel_rfl
theorem E_typeT (a : Addr) (w : World) : (ReflectliteValue.methodAny (ReflectliteValue.valueError "reflectlite.Value.Type" 0) (fun t _ _ _ => ReflectliteType.toType t) #[.agg #[hnd 64, .pointer (some a), .int .u64 150]]).run Tryd.prog w = .ok (.iface 82 (.agg #[hnd 64])) w := by kernel_rfl
theorem E_kindT (w : World) : ((ReflectliteType.abiMethod fun t => (fun a : Nat => Value.int IntKind.u8 (a : Int)) <$> Rtype.kind t) #[hnd 64]).run Tryd.prog w = .ok (.int .u8 22) w := by kernel_rfl
theorem E_kindE (w : World) : ((ReflectliteType.abiMethod fun t => (fun a : Nat => Value.int IntKind.u8 (a : Int)) <$> Rtype.kind t) #[hnd 24]).run Tryd.prog w = .ok (.int .u8 2) w := by kernel_rfl
theorem E_partsT (a : Addr) (w : World) : (ReflectliteValue.parts (.agg #[hnd 64, .pointer (some a), .int .u64 150])).run Tryd.prog w = .ok (some (64, a, 150)) w := by kernel_rfl
theorem E_isNilT (a p : Addr) (W : World) (ha : W.cell? a = some (.pointer (some p))) :
    (ReflectliteValue.method (ReflectliteValue.valueError "reflectlite.Value.IsNil" 0) ReflectliteValue.isNil #[.agg #[hnd 64, .pointer (some a), .int .u64 150]]).run Tryd.prog W = .ok (.bool false) W := by
  rw [rl_m]
  simp only [Sem.run_bind, E_partsT, Result.andThen]
  simp [ReflectliteValue.isNil, loadVar, isAgg, underlying, Tryd.underlying64, ha, Result.andThen]
theorem E_elemT (w : World) : (ReflectliteType.method ReflectliteType.elem #[.agg #[hnd 64]]).run Tryd.prog w = .ok (.iface 82 (.agg #[hnd 24])) w := by kernel_rfl
theorem E_implements (w : World) : (ReflectliteType.relation "Implements" ReflectliteType.implements_ #[.agg #[hnd 24], .iface 82 (.agg #[hnd 45])]).run Tryd.prog w = .ok (.bool true) w := by kernel_rfl
theorem E_typeOf (v : Value) (w : World) : (ReflectliteType.typeOf #[.iface 24 v]).run Tryd.prog w = .ok (.iface 82 (.agg #[hnd 24])) w := by kernel_rfl
theorem E_assignable (w : World) : (ReflectliteType.relation "AssignableTo" ReflectliteType.assignableTo #[.agg #[hnd 24], .iface 82 (.agg #[hnd 24])]).run Tryd.prog w = .ok (.bool true) w := by kernel_rfl
theorem E_elemOf (w : World) : (Rtype.elem? 64).run Tryd.prog w = .ok (some 24) w := by kernel_rfl
theorem E_mk (p : Addr) (w : World) : (ReflectliteValue.mk 24 p ReflectliteValue.flagAddr).run Tryd.prog w = .ok (.agg #[hnd 24, .pointer (some p), .int .u64 386]) w := by kernel_rfl
theorem E_elemV (a p : Addr) (W : World) (ha : W.cell? a = some (.pointer (some p))) :
    (ReflectliteValue.method (ReflectliteValue.valueError "reflectlite.Value.Elem" 0) ReflectliteValue.elem #[.agg #[hnd 64, .pointer (some a), .int .u64 150]]).run Tryd.prog W = .ok (.agg #[hnd 24, .pointer (some p), .int .u64 386]) W := by
  rw [rl_m]
  simp only [Sem.run_bind, E_partsT, Result.andThen]
  simp [ReflectliteValue.elem, loadVar, isAgg, underlying, Tryd.underlying64, ha, Result.andThen, E_elemOf, E_mk]
theorem E_partsA (a : Addr) (w : World) : (ReflectliteValue.parts (.agg #[hnd 24, .pointer (some a), .int .u64 386])).run Tryd.prog w = .ok (some (24, a, 386)) w := by kernel_rfl
theorem E_parts (a : Addr) (w : World) : (ReflectliteValue.parts (.agg #[hnd 24, .pointer (some a), .int .u64 130])).run Tryd.prog w = .ok (some (24, a, 130)) w := by kernel_rfl
theorem E_direct (w : World) : (Rtype.directlyAssignable 24 24).run Tryd.prog w = .ok true w := by kernel_rfl
theorem E_valueOf (n : Int) (w : World) : (ReflectliteValue.unpack (.iface 24 (.int .i64 n))).run Tryd.prog w = .ok (.agg #[hnd 24, .pointer (some ⟨w.heap.size, 0, none⟩), .int .u64 130]) (w.alloc (.cells #[.int .i64 n] 24)) := by kernel_rfl
theorem m_kind (h : Value) (w : World) : (Go.method 223 82 (.agg #[h]) "Kind").run Tryd.prog w = .ok (52, h) w := by kernel_rfl
theorem m_elem (h : Value) (w : World) : (Go.method 223 82 (.agg #[h]) "Elem").run Tryd.prog w = .ok (65, .agg #[h]) w := by kernel_rfl
theorem m_implements (h : Value) (w : World) : (Go.method 223 82 (.agg #[h]) "Implements").run Tryd.prog w = .ok (66, .agg #[h]) w := by kernel_rfl
theorem m_assignable (h : Value) (w : World) : (Go.method 223 82 (.agg #[h]) "AssignableTo").run Tryd.prog w = .ok (63, .agg #[h]) w := by kernel_rfl
theorem E_set (ta b : Addr) (n : Int) (old : Value) (W : World) (hb : W.cell? b = some (.int .i64 n)) (ht : W.cell? ta = some old) (hf : W.frozen? ta = false) :
    (ReflectliteValue.set #[.agg #[hnd 24, .pointer (some ta), .int .u64 386], .agg #[hnd 24, .pointer (some b), .int .u64 130]]).run Tryd.prog W = .ok (.tuple #[]) (W.setCell ta (.int .i64 n)) := by
  rw [rl_s]
  simp only [Sem.run_bind, E_partsA, E_parts, Result.andThen]
  simp [ReflectliteValue.flagAddr, loadVar, isAgg, underlying, Tryd.underlying24, hb, Result.andThen, E_direct, storeVar, Value.cells, storeCells, Addr.add]
  rw [run_store Tryd.prog W ta _ _ (by rfl)]
  simp [ht, hf]
theorem a2_old {w : World} {b : Nat} (hb : b < w.heap.size) (X Y : Obj) (i : Nat) : ((w.alloc X).alloc Y).cell? ⟨b, i, none⟩ = w.cell? ⟨b, i, none⟩ ∧ ((w.alloc X).alloc Y).frozen? ⟨b, i, none⟩ = w.frozen? ⟨b, i, none⟩ := by
  constructor
  · rw [World.cell?_alloc_lt _ _ ⟨b, i, none⟩ (by simp; omega), World.cell?_alloc_lt _ _ ⟨b, i, none⟩ hb]
  · rw [World.frozen?_alloc_old _ _ ⟨b, i, none⟩ (by simp; omega), World.frozen?_alloc_old _ _ ⟨b, i, none⟩ (Nat.ne_of_lt hb)]
theorem no_as_E (v : Value) (w : World) : (Instr.typeAssert (.iface 24 v) 45 87 true).run Tryd.prog w = .ok (.tuple #[.nilIface, .bool false]) w := run_typeAssert_lacksB Tryd.underlying87 (by kernel_rfl) (by kernel_rfl) v _ w
theorem no_un_E (v : Value) (w : World) : (Instr.typeAssert (.iface 24 v) 45 90 true).run Tryd.prog w = .ok (.tuple #[.nilIface, .bool false]) w := run_typeAssert_lacksB Tryd.underlying90 (by kernel_rfl) (by kernel_rfl) v _ w
theorem no_us_E (v : Value) (w : World) : (Instr.typeAssert (.iface 24 v) 45 92 true).run Tryd.prog w = .ok (.tuple #[.nilIface, .bool false]) w := run_typeAssert_lacksB Tryd.underlying92 (by kernel_rfl) (by kernel_rfl) v _ w
set_option maxRecDepth 100000 in
set_option maxHeartbeats 1000000 in
theorem as_E (n n0 : Int) (tb : Nat) (va : Addr) (t : Value) (w : World) (hv : w.cell? va = some (.pointer (some ⟨tb, 0, none⟩))) (ht : w.cell? ⟨tb, 0, none⟩ = some (.int .i64 n0)) (hf : w.frozen? ⟨tb, 0, none⟩ = false) :
    Calls Tryd.prog 32 #[.iface 24 (.int .i64 n), t, .agg #[hnd 64, .pointer (some va), .int .u64 150], .iface 82 (.agg #[hnd 24])] w fun e w' => e = .returned (.bool true) ∧ Kept tb w w' ∧
      w'.cell? ⟨tb, 0, none⟩ = some (.int .i64 n) := by
  have x0 := @run_callFunc_extern Tryd.prog 35 _ ReflectliteType.typeOf Tryd.func35 (by kernel_rfl) (by kernel_rfl) (by kernel_rfl) (by kernel_rfl)
  have x1 := @run_callFunc_extern Tryd.prog 63 _ (ReflectliteType.relation "AssignableTo" ReflectliteType.assignableTo) Tryd.func63 (by kernel_rfl) (by kernel_rfl) (by kernel_rfl) (by kernel_rfl)
  have x2 := @run_callFunc_extern Tryd.prog 36 _ (ReflectliteValue.method (ReflectliteValue.valueError "reflectlite.Value.Elem" 0) ReflectliteValue.elem) Tryd.func36 (by kernel_rfl) (by kernel_rfl) (by kernel_rfl) (by kernel_rfl)
  have x3 := @run_callFunc_extern Tryd.prog 29 _ (fun args => ReflectliteValue.unpack (args.getD 0 (.tuple #[]))) Tryd.func29 (by kernel_rfl) (by kernel_rfl) (by kernel_rfl) (by kernel_rfl)
  have x4 := @run_callFunc_extern Tryd.prog 37 _ ReflectliteValue.set Tryd.func37 (by kernel_rfl) (by kernel_rfl) (by kernel_rfl) (by kernel_rfl)
  have tO := E_typeOf
  have mA := m_assignable
  have aP := E_assignable
  have vO := E_valueOf
  have hva : va.block < w.heap.size := World.block_lt_of_cell? w _ hv
  have htb : tb < w.heap.size := World.block_lt_of_cell? w _ ht
  have eV := E_elemV va ⟨tb, 0, none⟩ (w.alloc (.cells #[hnd 64, .pointer (some va), .int .u64 150] 71)) (by rw [World.cell?_alloc_lt _ _ va hva]; exact hv)
  have q := fun i => a2_old htb (.cells #[hnd 64, .pointer (some va), .int .u64 150] 71) (.cells #[.int .i64 n] 24) i
  have st := E_set ⟨tb, 0, none⟩ ⟨w.heap.size + 1, 0, none⟩ n (.int .i64 n0) ((w.alloc (.cells #[hnd 64, .pointer (some va), .int .u64 150] 71)).alloc (.cells #[.int .i64 n] 24)) (by simp) ((q 0).1.trans ht) ((q 0).2.trans hf)
  clear q
  go_enter Tryd.func32, Tryd.ntmps32
  go_wp2
  refine wp_loop_rounds 1 ?_
  rw [rounds_succ]
  go_wp2
  go_ret
  refine ⟨rfl, ?_, ?_⟩
  · repeat (first | with_reducible exact Kept.refl _ _ | with_reducible refine Kept.setCell ?_ _ _ | with_reducible refine Kept.alloc ?_ _)
  · exact (((Kept.refl w.heap.size _).alloc _).alloc _).cell (by omega) (by simp [go_sem, ht])
/-- The library's variable of the type 'error' reads as it is laid. -/
def ErrT (w : World) : Prop := w.cell? ⟨0, 0, none⟩ = some (.iface 82 (.agg #[hnd 45]))
theorem ErrT.below {w w' : World} (h : ErrT w) (hb : Below w.heap.size w w') : ErrT w' := cell_later hb h
set_option maxRecDepth 100000 in
set_option maxHeartbeats 1000000 in
theorem E_As (T : TypeId) (u : Value) (tb : Nat) (b : Bool) (R : World → Prop) (w : World) (hg : ErrT w) (htb : tb < w.heap.size)
    (h : ∀ w' (va : Addr) (t : Value), Below w.heap.size w w' → w'.cell? va = some (.pointer (some ⟨tb, 0, none⟩)) → w.heap.size ≤ va.block →
      Calls Tryd.prog 32 #[.iface T u, t, .agg #[hnd 64, .pointer (some va), .int .u64 150], .iface 82 (.agg #[hnd 24])] w' fun e w'' => e = .returned (.bool b) ∧ R w'') :
    Calls Tryd.prog 25 #[.iface T u, .iface 64 (.pointer (some ⟨tb, 0, none⟩))] w fun e w' => e = .returned (.bool b) ∧ R w' := by
  have x0 := @run_callFunc_extern Tryd.prog 29 _ (fun args => ReflectliteValue.unpack (args.getD 0 (.tuple #[]))) Tryd.func29 (by kernel_rfl) (by kernel_rfl) (by kernel_rfl) (by kernel_rfl)
  have x1 := @run_callFunc_extern Tryd.prog 30 _ (ReflectliteValue.methodAny (ReflectliteValue.valueError "reflectlite.Value.Type" 0) (fun t _ _ _ => ReflectliteType.toType t)) Tryd.func30 (by kernel_rfl) (by kernel_rfl) (by kernel_rfl) (by kernel_rfl)
  have x2 := @run_callFunc_extern Tryd.prog 31 _ (ReflectliteValue.method (ReflectliteValue.valueError "reflectlite.Value.IsNil" 0) ReflectliteValue.isNil) Tryd.func31 (by kernel_rfl) (by kernel_rfl) (by kernel_rfl) (by kernel_rfl)
  have x3 := @run_callFunc_extern Tryd.prog 52 _ (ReflectliteType.abiMethod fun t => do pure (.int .u8 (← Rtype.kind t))) Tryd.func52 (by kernel_rfl) (by kernel_rfl) (by kernel_rfl) (by kernel_rfl)
  have x4 := @run_callFunc_extern Tryd.prog 65 _ (ReflectliteType.method ReflectliteType.elem) Tryd.func65 (by kernel_rfl) (by kernel_rfl) (by kernel_rfl) (by kernel_rfl)
  have x5 := @run_callFunc_extern Tryd.prog 66 _ (ReflectliteType.relation "Implements" ReflectliteType.implements_) Tryd.func66 (by kernel_rfl) (by kernel_rfl) (by kernel_rfl) (by kernel_rfl)
  have vT := E_valueOfT
  have tT := E_typeT
  have mK := m_kind
  have mE := m_elem
  have mI := m_implements
  have kT := E_kindT
  have kE := E_kindE
  have eT := E_elemT
  have iE := E_implements
  have h0 : 0 < w.heap.size := World.block_lt_of_cell? w _ hg
  have nI := E_isNilT ⟨w.heap.size, 0, none⟩ ⟨tb, 0, none⟩ ((w.alloc (.cells #[.pointer (some ⟨tb, 0, none⟩)] 64)).alloc (.cells #[hnd 64, .pointer (some ⟨w.heap.size, 0, none⟩), .int .u64 150] 71)) (by simp)
  have hB : Below w.heap.size w ((w.alloc (.cells #[.pointer (some ⟨tb, 0, none⟩)] 64)).alloc (.cells #[hnd 64, .pointer (some ⟨w.heap.size, 0, none⟩), .int .u64 150] 71)) := ((Below.refl _ _).alloc (Nat.le_refl _) _).alloc (by simp) _
  have hg2 : ((w.alloc (.cells #[.pointer (some ⟨tb, 0, none⟩)] 64)).alloc (.cells #[hnd 64, .pointer (some ⟨w.heap.size, 0, none⟩), .int .u64 150] 71)).cell? ⟨0, 0, none⟩ = some (.iface 82 (.agg #[hnd 45])) := cell_later hB hg
  have HH := Lib.hid h
  clear h
  unfold hnd at vT tT kT kE eT iE nI hg2 hB HH
  have hva : ((w.alloc (.cells #[.pointer (some ⟨tb, 0, none⟩)] 64)).alloc (.cells #[.pointer (some ⟨1, 64, none⟩), .pointer (some ⟨w.heap.size, 0, none⟩), .int .u64 150] 71)).cell? ⟨w.heap.size, 0, none⟩ = some (.pointer (some ⟨tb, 0, none⟩)) := by simp
  go_enter Tryd.func25, Tryd.ntmps25
  go_wp2_with (go_at_call 32; refine (HH.out _ ⟨w.heap.size, 0, none⟩ _ hB hva (Nat.le_refl _)).mono ?_; rintro e w2 ⟨rfl, hR⟩)
  go_ret
  exact ⟨rfl, hR⟩
set_option maxRecDepth 100000 in
set_option maxHeartbeats 1000000 in
/-- Nothing is asked of no error. -/
theorem nil_As (t : Value) (w : World) : Calls Tryd.prog 25 #[.nilIface, t] w fun e w' => e = .returned (.bool false) ∧ w' = w := by
  go_enter Tryd.func25, Tryd.ntmps25
  go_wp2
  go_ret
  exact ⟨rfl, rfl⟩
end Go.Proofs.YtflpnpppljalaaaDoor.ErrC
