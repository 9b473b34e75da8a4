/-
  What the rows' listed variables give the walks, found by their names, a type's handle among them; a world in which they lie as listed (great tables too); the world's shape handed to the walk.
-/
import Derived.Test.YtccigjelbnjcoaaGreatDoorCards
import Derived.Test.YtccigjelbnjcoaaGreatDoorTie
import Derived.Test.YtccigjelbnjcoaaGreatDoorPTellTreeS
import Derived.ProofKit
import Derived.OpenShut
import Derived.LaidMore
import Derived.LaidHandle
import Derived.LaidSub
import Derived.Lay
import Derived.Shelf.Vars
import Derived.Stop.Joined
import Derived.Stop.LaidErr
import Derived.Lib.LaidTab
import Derived.SevenTiedAt
namespace Go.Proofs.YtccigjelbnjcoaaGreatDoor.NumC
set_option linter.unusedVariables false
open Go.ChangeShapes Go.WideShapes Go.ChangeAt Go.RowKit
theorem handed_shaped {H : Type} {enc : TypeId × Value → H} {a : Assume} {C : Checked} {os : Os} {f : FuncId} {fn : Func} {s : ChangeSpec} {conds : List PathCond} {apt fresh handsOn again : Bool} {X : World → Array Value → Prop}
    (hX : ∀ (w w' : World) (args : Array Value), w.heap = w'.heap → X w args → X w' args)
    (own : ownKnob C.prog.godebug = none) (started : os.Started) (noInit : C.prog.inits.idxOf? f = none) (hfn : C.prog.funcs[f]? = some fn)
    (start : ∃ (w : World) (tape : Tape) (i : Input), w.os = os ∧ (w.forCall tape i).Shaped C.prog ∧ i.vars = [] ∧ Input.okWide C.prog (w.forCall tape i) .any w.heap.size f i ∧
      ((s.pre enc C.prog fn conds apt (w.forCall tape i).memory i.args ∧ X (w.forCall tape i).memory i.args) ∧ sizedMet enc C.prog fn (OpenSpec.ofChange s) apt (w.forCall tape i).memory i.args) ∧ a.holds C.prog (lone (Frame.enter C.prog f i.args .normal) [] (w.forCall tape i)))
    (walk : ∀ (W : World) (base : Nat) (args : Array Value) (ds gs : List (DataW H)) (befo : List MemPlace),
      (∀ (j : Nat) t v, fn.params[j]? = some t → args[j]? = some v → Value.okWide C.prog W .any base t v) →
      DataW.Whole enc C.prog fn.params.toList s.vars apt W args.toList ds gs befo → X W args → W.ShapedOpen C.prog →
      Calls C.prog f args W fun e W' => ∃ v, e = .returned v ∧ s.post enc C.prog fn apt fresh handsOn again W args v W') :
    ReturnsInHanded a C os f .any (fun w args => (s.pre enc C.prog fn conds apt w args ∧ X w args) ∧ sizedMet enc C.prog fn (OpenSpec.ofChange s) apt w args) (s.post enc C.prog fn apt fresh handsOn again) := by
  refine returnsInHanded_of_calls own started noInit start fun w tape i _ shaped _ ok met _ => ?_
  obtain ⟨_, _, _, g, hg, _, _, _, _, typed⟩ := ok
  cases Option.some.inj (hg.symm.trans hfn)
  obtain ⟨⟨⟨ds, gs, befo, whole, _⟩, x⟩, _⟩ := met
  have r := walk (w.forCall tape i) w.heap.size i.args ds gs befo typed (DataW.Whole.of_heap (w' := w.forCall tape i) (by rfl) whole) (hX _ (w.forCall tape i) _ (by rfl) x) shaped
  exact r.mono fun e W' ⟨v, he, hp⟩ => by subst he; exact ChangeSpec.post_blind hp
theorem laid_one {P : Program} {W : World} {l : List (String × DataW Unit)} {n : String} {d : DataW Unit} (h : laidMet P l W) (hf : l.filter (fun x => x.1 == n) = [(n, d)]) : laidMet P [(n, d)] W := hf ▸ h.filter _
theorem own : ownKnob Tryz.prog.godebug = none := by kernel_rfl
theorem laidOut : laidOutB Tryz.prog = true := by kernel_rfl
theorem tTab : (Tryz.prog.globals[6]?).map (·.type) = some 192 := by kernel_rfl
theorem tSyn : (Tryz.prog.globals[2]?).map (·.type) = some 69 := by kernel_rfl
theorem tRan : (Tryz.prog.globals[3]?).map (·.type) = some 69 := by kernel_rfl
theorem cellsTab : Tryz.prog.cellsOf 192 = 20 := by kernel_rfl
theorem cellsU64 : Tryz.prog.cellsOf 56 = 1 := by kernel_rfl
theorem cellsErrS : Tryz.prog.cellsOf 190 = 1 := by kernel_rfl
theorem cellsStr : Tryz.prog.cellsOf 9 = 1 := by kernel_rfl
theorem star : "*" ++ "errors.errorString" = "*errors.errorString" := by decide
theorem rowErr (u : TypeId) (h : Tryz.prog.typeName? 3 u = some "*errors.errorString") : u = 188 :=
  typeName_ptr_named (nm := "errors.errorString") (by rw [star]; kernel_rfl) (by kernel_rfl) (by decide) u (by rw [star]; exact h)
theorem libIs_of {W : World} {l : List (String × DataW Unit)} (h : laidMet Tryz.prog l W)
    (h1 : l.filter (fun x => x.1 == "internal/strconv.uint64pow10") = [("internal/strconv.uint64pow10", Rows.laid_internal_strconv_uint64pow10)])
    (h2 : l.filter (fun x => x.1 == "strconv.ErrRange") = [("strconv.ErrRange", Rows.laid_strconv_ErrRange)])
    (h3 : l.filter (fun x => x.1 == "strconv.ErrSyntax") = [("strconv.ErrSyntax", Rows.laid_strconv_ErrSyntax)]) : LibIs W := by
  have g1 := laid_one h h1
  have g2 := laid_one h h2
  have g3 := laid_one h h3
  obtain ⟨a4, s4, v4, -, -, -⟩ := laid_sentinel g2 gRan tRan Tryz.underlying69 rowErr Tryz.underlying188 Tryz.underlying190 rfl rfl Tryz.underlying9 cellsErrS cellsStr
  obtain ⟨a5, s5, v5, -, -, -⟩ := laid_sentinel g3 gSyn tSyn Tryz.underlying69 rowErr Tryz.underlying188 Tryz.underlying190 rfl rfl Tryz.underlying9 cellsErrS cellsStr
  exact ⟨Lib.tabIs_of_head gTab tTab Tryz.underlying192 Tryz.underlying56 cellsU64 cellsTab g1, ⟨_, _, v5⟩, ⟨_, _, v4⟩⟩
theorem laid_isNone {l : List (String × DataW Unit)} {W : World} {n : String} {d : DataW Unit} (h : laidMetH Tryz.prog l W) (he : (l.filter fun x => x.2.handleName?.isSome) = [(n, d)]) :
    laidMet Tryz.prog (l.filter fun x => x.2.handleName?.isNone) W ∧ handlesMet Tryz.prog [(n, d)] W := by
  unfold laidMetH at h
  rw [he] at h
  exact h
theorem handles : (Rows.refsOfRow.laid.filter fun x => x.2.handleName?.isSome) = [("errors.errorType", Rows.laid_errors_errorType)] := by kernel_rfl
theorem libIs_ofHP {W : World} (h : laidMetH Tryz.prog Rows.refsOfRow.laid W) : LibIs W :=
  libIs_of (laid_isNone h handles).1 (by kernel_rfl) (by kernel_rfl) (by kernel_rfl)
theorem et : Tryz.prog.globalNamed "errors.errorType" = some 0 := by kernel_rfl
theorem rtN : (Tryz.prog.cutTypes.find? (·.1 == "internal/reflectlite.rtype")).map (·.2) = some 129 := by kernel_rfl
theorem oneRow : ((List.range Tryz.prog.types.size).filter fun t => Tryz.prog.rowNamed t [101, 114, 114, 111, 114]) = [69] := by kernel_rfl
theorem errT_ofH {W : World} (h : laidMetH Tryz.prog Rows.refsOfRow.laid W) : TreeC.ErrT W := by
  have h' := (laid_isNone h handles).2
  obtain ⟨name, u, ty, e1, e2, e3, e4, e5⟩ := h' _ (List.mem_singleton.2 rfl)
  have en : name = [101, 114, 114, 111, 114] := (Option.some.inj e1).symm
  subst en
  obtain rfl := Option.some.inj (rtN.symm.trans e2)
  have hm : ty ∈ (List.range Tryz.prog.types.size).filter fun t => Tryz.prog.rowNamed t [101, 114, 114, 111, 114] := List.mem_filter.2 ⟨List.mem_range.2 e3, e4⟩
  rw [oneRow] at hm
  obtain rfl := List.mem_singleton.1 hm
  have hh : typeHandle Tryz.prog 69 = TreeC.hnd 69 := by kernel_rfl
  rw [hh] at e5
  simpa [TreeC.ErrT] using World.var?_cell et e5 0
theorem maxLen_of {W : World} (h : W.ShapedOpen Tryz.prog) : ∃ m, W.cell? ⟨1, 0, none⟩ = some (.int .i64 m) :=
  cell_of_shapedOpen_int (zero := #[.int .i64 0]) (t := 3) h (of_decide_eq_true (by kernel_rfl)) (by kernel_rfl) rfl (by kernel_rfl) (by kernel_rfl) Tryz.underlying3
noncomputable def base0 (os : Os) : World :=
  let w0 := World.holding Tryz.prog os ⟨#[], #[], []⟩
  { w0 with heap := w0.heap.modify 0 fun
      | .cells _ t frozen => .cells #[.iface 129 (.agg #[TreeC.hnd 69])] t frozen
      | o => o }
def plainL : List (String × DataW Unit) := Rows.refsOfRow.laid.filter fun x => x.2.handleName?.isNone
noncomputable def hWorld (os : Os) : World := (base0 os).layVars Tryz.prog plainL
theorem hWorld_os (os : Os) : (hWorld os).os = os := World.layVars_os _ _ _
theorem hWorld_plain (os : Os) (args : Array Value) : laidMet Tryz.prog plainL ((hWorld os).forCall (fun _ _ => 0) ⟨#[], args, []⟩).memory := by
  have e1 : (plainL.filter fun x => (plainL.map (·.1)).contains x.1) = plainL := List.filter_eq_self.2 fun x hx => List.contains_iff_mem.2 (List.mem_map.2 ⟨x, hx, rfl⟩)
  have e2 : (plainL.filter fun x => !(plainL.map (·.1)).contains x.1) = [] := List.filter_eq_nil_iff.2 fun x hx => by rw [List.contains_iff_mem.2 (List.mem_map.2 ⟨x, hx, rfl⟩)]; simp
  have h : laidMet Tryz.prog plainL (hWorld os) := laidMet_layVars (w0 := base0 os) (plainL.map (·.1)) [] (by rw [e1]; rfl) (by rw [e1]; kernel_rfl) (by rw [e1]; kernel_rfl) (by rw [e2]; exact LaidIn.none)
  exact h.of_heap (by simp [World.memory, World.forCall, Input.heap])
theorem hWorld_met (os : Os) (args : Array Value) : laidMetH Tryz.prog Rows.refsOfRow.laid ((hWorld os).forCall (fun _ _ => 0) ⟨#[], args, []⟩).memory :=
  laidMetH_of_parts (hWorld_plain os args) (by rw [handles]; kernel_rfl)
end Go.Proofs.YtccigjelbnjcoaaGreatDoor.NumC
