/-
  The errors that pack tells: errors.As into their number.
-/
import Derived.Test.YtflpnpppljalaaaDoorErrE
import Derived.Test.YtflpnpppljalaaaDoorPackM
namespace Go.Proofs.YtflpnpppljalaaaDoor.PackC
set_option linter.unusedVariables false
open Go.RowKit Go.Extern.Stop Go.Stop Go.Extern Go.Proofs.YtflpnpppljalaaaDoor.NumC Go.Proofs.YtflpnpppljalaaaDoor.RowsC Go.Proofs.YtflpnpppljalaaaDoor.ErrC

theorem M_typeOf (v : Value) (w : World) : (ReflectliteType.typeOf #[.iface 57 v]).run Tryd.prog w = .ok (.iface 82 (.agg #[hnd 57])) w := by kernel_rfl
theorem not_M (w : World) : (ReflectliteType.relation "AssignableTo" ReflectliteType.assignableTo #[.agg #[hnd 57], .iface 82 (.agg #[hnd 24])]).run Tryd.prog w = .ok (.bool false) w := by kernel_rfl
theorem no_as_M (v : Value) (w : World) : (Instr.typeAssert (.iface 57 v) 45 87 true).run Tryd.prog w = .ok (.tuple #[.nilIface, .bool false]) w := run_typeAssert_lacksB Tryd.underlying87 (by kernel_rfl) (by kernel_rfl) v _ w
theorem un_M (v : Value) (w : World) : (Instr.typeAssert (.iface 57 v) 45 90 true).run Tryd.prog w = .ok (.tuple #[.iface 57 v, .bool true]) w := run_typeAssert_hasB Tryd.underlying90 (by kernel_rfl) v _ w
theorem m_unwrap_M (a b n : Value) (w : World) : (Go.method 223 57 (.agg #[a, b, n]) "Unwrap").run Tryd.prog w = .ok (57, .agg #[a, b, n]) w := by kernel_rfl
set_option maxRecDepth 100000 in
set_option maxHeartbeats 1000000 in
theorem unwrap_M (a b n : Int) (w : World) : Calls Tryd.prog 57 #[.agg #[.int .i64 a, .int .i64 b, .int .i64 n]] w fun e w' => e = .returned (.iface 24 (.int .i64 n)) ∧ w' = w.alloc (.cells #[.int .i64 a, .int .i64 b, .int .i64 n] 57) := by
  go_enter Tryd.func57, Tryd.ntmps57
  go_wp2
  go_ret
  exact ⟨rfl, rfl⟩
set_option maxRecDepth 100000 in
set_option maxHeartbeats 1000000 in
theorem as_ME (a b n n0 : Int) (tb : Nat) (va : Addr) (t : Value) (w : World) (hv : w.cell? va = some (.pointer (some ⟨tb, 0, none⟩))) (ht : w.cell? ⟨tb, 0, none⟩ = some (.int .i64 n0)) (hf : w.frozen? ⟨tb, 0, none⟩ = false) :
    Calls Tryd.prog 32 #[.iface 57 (.agg #[.int .i64 a, .int .i64 b, .int .i64 n]), t, .agg #[hnd 64, .pointer (some va), .int .u64 150], .iface 82 (.agg #[hnd 24])] w fun e w' => e = .returned (.bool true) ∧ Kept tb w w' ∧
      w'.cell? ⟨tb, 0, none⟩ = some (.int .i64 n) := by
  have x0 := @run_callFunc_extern Tryd.prog 35 _ ReflectliteType.typeOf Tryd.func35 (by kernel_rfl) (by kernel_rfl) (by kernel_rfl) (by kernel_rfl)
  have x1 := @run_callFunc_extern Tryd.prog 63 _ (ReflectliteType.relation "AssignableTo" ReflectliteType.assignableTo) Tryd.func63 (by kernel_rfl) (by kernel_rfl) (by kernel_rfl) (by kernel_rfl)
  have x2 := @run_callFunc_extern Tryd.prog 36 _ (ReflectliteValue.method (ReflectliteValue.valueError "reflectlite.Value.Elem" 0) ReflectliteValue.elem) Tryd.func36 (by kernel_rfl) (by kernel_rfl) (by kernel_rfl) (by kernel_rfl)
  have x3 := @run_callFunc_extern Tryd.prog 29 _ (fun args => ReflectliteValue.unpack (args.getD 0 (.tuple #[]))) Tryd.func29 (by kernel_rfl) (by kernel_rfl) (by kernel_rfl) (by kernel_rfl)
  have x4 := @run_callFunc_extern Tryd.prog 37 _ ReflectliteValue.set Tryd.func37 (by kernel_rfl) (by kernel_rfl) (by kernel_rfl) (by kernel_rfl)
  have tO := M_typeOf
  have tO2 := E_typeOf
  have mA := m_assignable
  have aP := E_assignable
  have aN := not_M
  have vO := E_valueOf
  have n1 := no_as_M
  have n2 := un_M
  have mU := m_unwrap_M
  have hva : va.block < w.heap.size := World.block_lt_of_cell? w _ hv
  have htb : tb < w.heap.size := World.block_lt_of_cell? w _ ht
  have eV := E_elemV va ⟨tb, 0, none⟩ ((w.alloc (.cells #[hnd 64, .pointer (some va), .int .u64 150] 71)).alloc (.cells #[.int .i64 a, .int .i64 b, .int .i64 n] 57)) (by rw [World.cell?_alloc_lt _ _ va (by simp; omega), World.cell?_alloc_lt _ _ va hva]; exact hv)
  have hz : ((w.alloc (.cells #[hnd 64, .pointer (some va), .int .u64 150] 71)).alloc (.cells #[.int .i64 a, .int .i64 b, .int .i64 n] 57)).heap.size = w.heap.size + 2 := by simp
  have q := fun i => a2_old htb (.cells #[hnd 64, .pointer (some va), .int .u64 150] 71) (.cells #[.int .i64 a, .int .i64 b, .int .i64 n] 57) i
  have st := E_set ⟨tb, 0, none⟩ ⟨w.heap.size + 2, 0, none⟩ n (.int .i64 n0) (((w.alloc (.cells #[hnd 64, .pointer (some va), .int .u64 150] 71)).alloc (.cells #[.int .i64 a, .int .i64 b, .int .i64 n] 57)).alloc (.cells #[.int .i64 n] 24)) (by rw [World.cell?_alloc_at _ _ _ _ (by simp)]; rfl) (by rw [World.cell?_alloc_lt _ _ ⟨tb, 0, none⟩ (by simp; omega)]; exact (q 0).1.trans ht) (by rw [World.frozen?_alloc_old _ _ ⟨tb, 0, none⟩ (by simp; omega)]; exact (q 0).2.trans hf)
  clear q hz
  go_enter Tryd.func32, Tryd.ntmps32
  go_wp2
  refine wp_loop_rounds 2 ?_
  rw [rounds_succ]
  go_wp2_with (first | (go_at_call 57; refine (unwrap_M a b n _).mono ?_; rintro e w2 ⟨rfl, rfl⟩))
  rw [rounds_succ]
  go_wp2
  go_ret
  refine ⟨rfl, ?_, ?_⟩
  · repeat (first | with_reducible exact Kept.refl _ _ | with_reducible refine Kept.setCell ?_ _ _ | with_reducible refine Kept.alloc ?_ _)
  · have hq : (((w.alloc (.cells #[hnd 64, .pointer (some va), .int .u64 150] 71)).alloc (.cells #[.int .i64 a, .int .i64 b, .int .i64 n] 57)).alloc (.cells #[.int .i64 n] 24)).cell? ⟨tb, 0, none⟩ = some (.int .i64 n0) := ((((Kept.refl w.heap.size w).alloc _).alloc _).alloc _).cell (Nat.ne_of_lt htb) ht
    simp [go_sem, hq]
/-- The errors that pack tells, by their numbers: none, a number, a number with the bytes that it means. -/
inductive ErrIs : Value → Int → Prop
  | none : ErrIs .nilIface 0
  | bare (n : Int) : ErrIs (.iface 24 (.int .i64 n)) n
  | fits (a b n : Int) : ErrIs (.iface 57 (.agg #[.int .i64 a, .int .i64 b, .int .i64 n])) n
set_option maxRecDepth 100000 in
set_option maxHeartbeats 1000000 in
theorem cwhy (e : Value) (n : Int) (h : ErrIs e n) (w : World) (hg : ErrT w) :
    Calls Tryd.prog 17 #[e] w fun e w' => e = .returned (.int .i64 n) ∧ Below w.heap.size w w' := by
  have hb1 : Below w.heap.size w (w.alloc (.cells #[.int .i64 0] 24)) := (Below.refl _ _).alloc (Nat.le_refl _) _
  have hc (w' : World) (hb : Below (w.alloc (.cells #[.int .i64 0] 24)).heap.size (w.alloc (.cells #[.int .i64 0] 24)) w') : w'.cell? ⟨w.heap.size, 0, none⟩ = some (.int .i64 0) ∧ w'.frozen? ⟨w.heap.size, 0, none⟩ = false := by
    refine ⟨cell_later hb (by simp), ?_⟩
    have e := hb.block w.heap.size (by simp)
    rw [heap_alloc_new] at e
    simp [World.frozen?, e]
  cases h with
  | none =>
    go_enter Tryd.func17, Tryd.ntmps17
    go_wp2_with fail
    refine (nil_As _ _).mono ?_
    rintro e w2 ⟨rfl, rfl⟩
    go_wp2
    go_ret
    exact ⟨rfl, hb1⟩
  | bare =>
    go_enter Tryd.func17, Tryd.ntmps17
    go_wp2_with fail
    refine (E_As 24 _ w.heap.size true (fun w' => Kept w.heap.size (w.alloc (.cells #[.int .i64 0] 24)) w' ∧ w'.cell? ⟨w.heap.size, 0, none⟩ = some (.int .i64 n)) (w.alloc (.cells #[.int .i64 0] 24)) (hg.below hb1) (by simp) (fun w' va t hb hv hge => ?_)).mono ?_
    · refine (as_E n 0 w.heap.size va t w' hv (hc w' hb).1 (hc w' hb).2).mono ?_
      rintro e w2 ⟨rfl, k2, q0⟩
      exact ⟨rfl, (Kept.of hb).trans k2, q0⟩
    · rintro e w2 ⟨rfl, k2, q0⟩
      go_wp2_with fail
      go_ret
      exact ⟨rfl, (((Kept.refl w.heap.size w).alloc _).trans k2).below (Nat.le_refl _)⟩
  | fits a b =>
    go_enter Tryd.func17, Tryd.ntmps17
    go_wp2_with fail
    refine (E_As 57 _ w.heap.size true (fun w' => Kept w.heap.size (w.alloc (.cells #[.int .i64 0] 24)) w' ∧ w'.cell? ⟨w.heap.size, 0, none⟩ = some (.int .i64 n)) (w.alloc (.cells #[.int .i64 0] 24)) (hg.below hb1) (by simp) (fun w' va t hb hv hge => ?_)).mono ?_
    · refine (as_ME a b n 0 w.heap.size va t w' hv (hc w' hb).1 (hc w' hb).2).mono ?_
      rintro e w2 ⟨rfl, k2, q0⟩
      exact ⟨rfl, (Kept.of hb).trans k2, q0⟩
    · rintro e w2 ⟨rfl, k2, q0⟩
      go_wp2_with fail
      go_ret
      exact ⟨rfl, (((Kept.refl w.heap.size w).alloc _).trans k2).below (Nat.le_refl _)⟩
end Go.Proofs.YtflpnpppljalaaaDoor.PackC
