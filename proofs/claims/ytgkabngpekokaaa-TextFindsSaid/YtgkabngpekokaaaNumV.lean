/-
  What a seat's rows give the walks where they list no variables, but name the search's own: the world's shape handed to the walk.
-/
import Derived.Test.YtgkabngpekokaaaNumP
import Derived.Shelf.Vars
import Derived.HandedShaped
namespace Go.Proofs.Ytgkabngpekokaaa.NumC
set_option linter.unusedVariables false
open Go.ChangeShapes Go.WideShapes Go.ChangeAt Go.RowKit

/-- The walk's own world is one of the program's shape: handed on beside the condition. -/
theorem handed_shaped {H : Type} {enc : TypeId × Value → H} {a : Assume} {C : Checked} {os : Os} {f : FuncId} {fn : Func} {s : ChangeSpec} {conds : List PathCond} {apt fresh handsOn again : Bool} {X : World → Array Value → Prop}
    (hX : ∀ (w w' : World) (args : Array Value), w.heap = w'.heap → X w args → X w' args)
    (own : ownKnob C.prog.godebug = none) (started : os.Started) (noInit : C.prog.inits.idxOf? f = none) (hfn : C.prog.funcs[f]? = some fn)
    (start : ∃ (w : World) (tape : Tape) (i : Input), w.os = os ∧ (w.forCall tape i).Shaped C.prog ∧ i.vars = [] ∧ Input.okWide C.prog (w.forCall tape i) .any w.heap.size f i ∧
      ((s.pre enc C.prog fn conds apt (w.forCall tape i).memory i.args ∧ X (w.forCall tape i).memory i.args) ∧ sizedMet enc C.prog fn (OpenSpec.ofChange s) apt (w.forCall tape i).memory i.args) ∧ a.holds C.prog (lone (Frame.enter C.prog f i.args .normal) [] (w.forCall tape i)))
    (walk : ∀ (W : World) (base : Nat) (args : Array Value) (ds gs : List (DataW H)) (before : List MemPlace),
      (∀ (j : Nat) t v, fn.params[j]? = some t → args[j]? = some v → Value.okWide C.prog W .any base t v) →
      DataW.Whole enc C.prog fn.params.toList s.vars apt W args.toList ds gs before → X W args → W.ShapedOpen C.prog →
      Calls C.prog f args W fun e W' => ∃ v, e = .returned v ∧ s.post enc C.prog fn apt fresh handsOn again W args v W') :
    ReturnsInHanded a C os f .any (fun w args => (s.pre enc C.prog fn conds apt w args ∧ X w args) ∧ sizedMet enc C.prog fn (OpenSpec.ofChange s) apt w args) (s.post enc C.prog fn apt fresh handsOn again) := by
  refine returnsInHanded_of_calls own started noInit start fun w tape i _ shaped _ ok met _ => ?_
  obtain ⟨_, _, _, g, hg, _, _, _, _, typed⟩ := ok
  cases Option.some.inj (hg.symm.trans hfn)
  obtain ⟨⟨⟨ds, gs, before, whole, _⟩, x⟩, _⟩ := met
  have r := walk (w.forCall tape i) w.heap.size i.args ds gs before typed (DataW.Whole.of_heap (w' := w.forCall tape i) (by rfl) whole) (hX _ (w.forCall tape i) _ (by rfl) x) shaped
  exact r.mono fun e W' ⟨v, he, hp⟩ => by subst he; exact ChangeSpec.post_blind hp

/-- The search's variable holds a number. -/
theorem maxLen_of {W : World} (h : W.ShapedOpen Try.prog) : ∃ m, W.cell? ⟨0, 0, none⟩ = some (.int .i64 m) :=
  cell_of_shapedOpen_int (zero := #[.int .i64 0]) (t := 3) h (of_decide_eq_true (by kernel_rfl)) (by kernel_rfl) rfl (by kernel_rfl) (by kernel_rfl) Try.underlying3
end Go.Proofs.Ytgkabngpekokaaa.NumC
