/-
  What the rows' listed type 'error' gives the walks, a world in which it lies as listed; the world's shape handed to the walk.
-/
import Derived.Test.YtflpnpppljalaaaDoorCards
import Derived.Test.YtflpnpppljalaaaDoorTie
import Derived.Test.YtflpnpppljalaaaDoorErrE
import Derived.ProofKit
import Derived.OpenShut
import Derived.LaidMore
import Derived.LaidHandle
import Derived.LaidSub
import Derived.Lay
import Derived.Shelf.Vars
import Derived.Stop.Joined
import Derived.Stop.LaidErr
import Derived.Lib.LaidTab
import Derived.SevenTiedAt
namespace Go.Proofs.YtflpnpppljalaaaDoor.NumC
set_option linter.unusedVariables false
open Go.ChangeShapes Go.WideShapes Go.ChangeAt Go.RowKit

/-- The walk's own world is one of the program's shape: handed on beside the condition. -/
theorem handed_shaped {H : Type} {enc : TypeId × Value → H} {a : Assume} {C : Checked} {os : Os} {f : FuncId} {fn : Func} {s : ChangeSpec} {conds : List PathCond} {apt fresh handsOn again : Bool} {X : World → Array Value → Prop}
    (hX : ∀ (w w' : World) (args : Array Value), w.heap = w'.heap → X w args → X w' args)
    (own : ownKnob C.prog.godebug = none) (started : os.Started) (noInit : C.prog.inits.idxOf? f = none) (hfn : C.prog.funcs[f]? = some fn)
    (start : ∃ (w : World) (tape : Tape) (i : Input), w.os = os ∧ (w.forCall tape i).Shaped C.prog ∧ i.vars = [] ∧ Input.okWide C.prog (w.forCall tape i) .any w.heap.size f i ∧
      ((s.pre enc C.prog fn conds apt (w.forCall tape i).memory i.args ∧ X (w.forCall tape i).memory i.args) ∧ sizedMet enc C.prog fn (OpenSpec.ofChange s) apt (w.forCall tape i).memory i.args) ∧ a.holds C.prog (lone (Frame.enter C.prog f i.args .normal) [] (w.forCall tape i)))
    (walk : ∀ (W : World) (base : Nat) (args : Array Value) (ds gs : List (DataW H)) (befo : List MemPlace),
      (∀ (j : Nat) t v, fn.params[j]? = some t → args[j]? = some v → Value.okWide C.prog W .any base t v) →
      DataW.Whole enc C.prog fn.params.toList s.vars apt W args.toList ds gs befo → X W args → W.ShapedOpen C.prog →
      Calls C.prog f args W fun e W' => ∃ v, e = .returned v ∧ s.post enc C.prog fn apt fresh handsOn again W args v W') :
    ReturnsInHanded a C os f .any (fun w args => (s.pre enc C.prog fn conds apt w args ∧ X w args) ∧ sizedMet enc C.prog fn (OpenSpec.ofChange s) apt w args) (s.post enc C.prog fn apt fresh handsOn again) := by
  refine returnsInHanded_of_calls own started noInit start fun w tape i _ shaped _ ok met _ => ?_
  obtain ⟨_, _, _, g, hg, _, _, _, _, typed⟩ := ok
  cases Option.some.inj (hg.symm.trans hfn)
  obtain ⟨⟨⟨ds, gs, befo, whole, _⟩, x⟩, _⟩ := met
  have r := walk (w.forCall tape i) w.heap.size i.args ds gs befo typed (DataW.Whole.of_heap (w' := w.forCall tape i) (by rfl) whole) (hX _ (w.forCall tape i) _ (by rfl) x) shaped
  exact r.mono fun e W' ⟨v, he, hp⟩ => by subst he; exact ChangeSpec.post_blind hp

theorem laid_one {P : Program} {W : World} {l : List (String × DataW Unit)} {n : String} {d : DataW Unit} (h : laidMet P l W) (hf : l.filter (fun x => x.1 == n) = [(n, d)]) : laidMet P [(n, d)] W := hf ▸ h.filter _
theorem own : ownKnob Tryd.prog.godebug = none := by kernel_rfl
theorem laidOut : laidOutB Tryd.prog = true := by kernel_rfl
theorem laid_isNone {l : List (String × DataW Unit)} {W : World} {n : String} {d : DataW Unit} (h : laidMetH Tryd.prog l W) (he : (l.filter fun x => x.2.handleName?.isSome) = [(n, d)]) :
    laidMet Tryd.prog (l.filter fun x => x.2.handleName?.isNone) W ∧ handlesMet Tryd.prog [(n, d)] W := by
  unfold laidMetH at h
  rw [he] at h
  exact h
theorem handles : (Rows.packMakesRow.laid.filter fun x => x.2.handleName?.isSome) = [("errors.errorType", Rows.laid_errors_errorType)] := by kernel_rfl
theorem et : Tryd.prog.globalNamed "errors.errorType" = some 0 := by kernel_rfl
theorem rtN : (Tryd.prog.cutTypes.find? (·.1 == "internal/reflectlite.rtype")).map (·.2) = some 82 := by kernel_rfl
theorem oneRow : ((List.range Tryd.prog.types.size).filter fun t => Tryd.prog.rowNamed t [101, 114, 114, 111, 114]) = [45] := by kernel_rfl
/-- The type that errors.As asks for: its handle lies in its variable. -/
theorem errT_ofH {W : World} (h : laidMetH Tryd.prog Rows.packMakesRow.laid W) : ErrC.ErrT W := by
  have h' := (laid_isNone h handles).2
  obtain ⟨name, u, ty, e1, e2, e3, e4, e5⟩ := h' _ (List.mem_singleton.2 rfl)
  have en : name = [101, 114, 114, 111, 114] := (Option.some.inj e1).symm
  subst en
  obtain rfl := Option.some.inj (rtN.symm.trans e2)
  have hm : ty ∈ (List.range Tryd.prog.types.size).filter fun t => Tryd.prog.rowNamed t [101, 114, 114, 111, 114] := List.mem_filter.2 ⟨List.mem_range.2 e3, e4⟩
  rw [oneRow] at hm
  obtain rfl := List.mem_singleton.1 hm
  have hh : typeHandle Tryd.prog 45 = ErrC.hnd 45 := by kernel_rfl
  rw [hh] at e5
  simpa [ErrC.ErrT] using World.var?_cell et e5 0
/-- The world befo a variable is laid, but for the handle, which lies in its block. -/
noncomputable def base0 (os : Os) : World :=
  let w0 := World.holding Tryd.prog os ⟨#[], #[], []⟩
  { w0 with heap := w0.heap.modify 0 fun
      | .cells _ t frozen => .cells #[.iface 82 (.agg #[ErrC.hnd 45])] t frozen
      | o => o }
def plainL : List (String × DataW Unit) := Rows.packMakesRow.laid.filter fun x => x.2.handleName?.isNone
noncomputable def hWorld (os : Os) : World := (base0 os).layVars Tryd.prog plainL
theorem hWorld_os (os : Os) : (hWorld os).os = os := World.layVars_os _ _ _
theorem hWorld_plain (os : Os) (args : Array Value) : laidMet Tryd.prog plainL ((hWorld os).forCall (fun _ _ => 0) ⟨#[], args, []⟩).memory := by
  have e1 : (plainL.filter fun x => (plainL.map (·.1)).contains x.1) = plainL := List.filter_eq_self.2 fun x hx => List.contains_iff_mem.2 (List.mem_map.2 ⟨x, hx, rfl⟩)
  have e2 : (plainL.filter fun x => !(plainL.map (·.1)).contains x.1) = [] := List.filter_eq_nil_iff.2 fun x hx => by rw [List.contains_iff_mem.2 (List.mem_map.2 ⟨x, hx, rfl⟩)]; simp
  have h : laidMet Tryd.prog plainL (hWorld os) := laidMet_layVars (w0 := base0 os) (plainL.map (·.1)) [] (by rw [e1]; rfl) (by rw [e1]; kernel_rfl) (by rw [e1]; kernel_rfl) (by rw [e2]; exact LaidIn.none)
  exact h.of_heap (by simp [World.memory, World.forCall, Input.heap])
theorem hWorld_met (os : Os) (args : Array Value) : laidMetH Tryd.prog Rows.packMakesRow.laid ((hWorld os).forCall (fun _ _ => 0) ⟨#[], args, []⟩).memory :=
  laidMetH_of_parts (hWorld_plain os args) (by rw [handles]; kernel_rfl)
theorem u8_of_wf {a : Int} (h : (Lit.int .u8 a).wf = true) : 0 ≤ a ∧ a ≤ 255 := by
  simp [Lit.wf, IntKind.min, IntKind.max, IntKind.signed, IntKind.bits] at h; omega
theorem i32_of_wf {a : Int} (h : (Lit.int .i32 a).wf = true) : -2147483648 ≤ a ∧ a ≤ 2147483647 := by
  simp [Lit.wf, IntKind.min, IntKind.max, IntKind.signed, IntKind.bits] at h; omega
end Go.Proofs.YtflpnpppljalaaaDoor.NumC
