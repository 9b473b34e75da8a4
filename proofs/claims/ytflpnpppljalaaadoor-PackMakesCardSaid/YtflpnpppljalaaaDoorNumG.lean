/-
  A region that draws its order, whose operations read and whose callees make memory and no more: one walk in the order of the text serves every order. (Over the library's law 'wp_region_quiet', at the class of the worlds that have grown out of one.)
-/
import Derived.Test.YtflpnpppljalaaaDoorNumA
import Derived.Deep.Quiet
import Derived.StillTailTactics
import Derived.LoopN
namespace Go.Proofs.YtflpnpppljalaaaDoor.NumC
set_option linter.unusedVariables false
open Go.RowKit

/-- A world that has grown out of w: what was there is as it was. -/
structure Gr (w : World) where
  now : World
  below : Below w.heap.size w now
instance (w : World) : Inhabited (Gr w) := ⟨⟨w, Below.refl _ _⟩⟩
theorem below_drewN' {B : Nat} {a w : World} (h : Below B a w) (n : Nat) : Below B a (w.drewN n) := ⟨h.os, h.tape, h.output, h.size, h.block⟩

theorem region_grown {P : Program} {id : Nat} {Q : Exit → Act → World → Prop} {a : Act} {w : World} {l : List Oper} (hm : P.follows .mixedOrders = true) (hB : Region.lexB .any l.toArray = true)
    (h : wpQuiet P l.toArray (fun w' => ∃ u : Gr w, w' = u.now) (fun a' => ∀ w', (∃ u : Gr w, w' = u.now) → Q .normal a' w') l a) : (Code.region id l.toArray true).wp P Q a w :=
  wp_region_quiet (C := fun w' => ∃ u : Gr w, w' = u.now) hm hB ⟨⟨w.drewN 1, below_drewN' (Below.refl _ _) 1⟩, rfl⟩ (by simpa using h)

/-- A callee's contract, met in a world that has grown. -/
theorem grown_of {P : Program} {f : FuncId} {args : Array Value} {w : World} {u : Gr w} {v : Value}
    (h : Calls P f args u.now fun e w' => e = .returned v ∧ Below u.now.heap.size u.now w') : Calls P f args u.now fun e w'' => e = .returned v ∧ ∃ u' : Gr w, w'' = u'.now :=
  h.mono fun _ w' ⟨he, hb⟩ => ⟨he, ⟨w', u.below.trans (hb.mono u.below.size)⟩, rfl⟩
theorem grown_same {P : Program} {f : FuncId} {args : Array Value} {w : World} {u : Gr w} {v : Value}
    (h : Calls P f args u.now fun e w' => e = .returned v ∧ u.now = w') : Calls P f args u.now fun e w'' => e = .returned v ∧ ∃ u' : Gr w, w'' = u'.now :=
  h.mono fun _ _ ⟨he, hb⟩ => ⟨he, u, hb.symm⟩
/-- The same for a region that ends with stores: what is ahead of them reads, and calls what leaves the world as it is. -/
theorem region_tail {P : Program} {id : Nat} {Q : Exit → Act → World → Prop} {a : Act} {w : World} {l : List Oper} (n : Nat) (hm : P.follows .mixedOrders = true) (hB : Region.lexTailB .any l.toArray n = true)
    (h : wpStill P l.toArray w.drew (fun a' => wpList P l.toArray Q (l.drop n) a' w.drew) (l.take n) a) : (Code.region id l.toArray true).wp P Q a w :=
  wp_region_still_tail n hm hB h
/-- A cell that was there. -/
theorem Gr.cell {W w : World} (b o : Nat) (v : Value) (hb : Below W.heap.size W w) (hv : W.cell? ⟨b, o, none⟩ = some v) : ∀ u : Gr w, u.now.cell? ⟨b, o, none⟩ = some v :=
  fun u => by
    have hlt : b < W.heap.size := World.block_lt_of_cell? W _ hv
    have h2 := u.below.mono hb.size
    rw [(h2.cell (p := ⟨b, o, none⟩) hlt), hb.cell (p := ⟨b, o, none⟩) hlt]; exact hv
end Go.Proofs.YtflpnpppljalaaaDoor.NumC
