/-
  A region that draws its order, whose operations read and whose callees make memory and no more: one walk in the order of the text serves every order. (Over the library's law 'wp_region_quiet', at the class of the worlds that have grown out of one.)
-/
import Derived.Test.YtakamedgdiffbaaDoorProg
import Derived.Test.YtakamedgdiffbaaDoorPAgainNumM
import Derived.WalkKit
import Derived.WalkSpells
import Derived.WalkLawsBesides
import Derived.Deep.QuietTactic
import Derived.BigQuiet
import Derived.Lib.Hide
import Derived.Deep.Quiet
import Derived.StillTailTactics
import Derived.LoopN
namespace Go.Proofs.YtakamedgdiffbaaDoor.NumC
set_option linter.unusedVariables false
open Go.RowKit
structure Gr (w : World) where
  now : World
  below : Below w.heap.size w now
instance (w : World) : Inhabited (Gr w) := ⟨⟨w, Below.refl _ _⟩⟩
theorem below_drewN' {B : Nat} {a w : World} (h : Below B a w) (n : Nat) : Below B a (w.drewN n) := ⟨h.os, h.tape, h.output, h.size, h.block⟩
theorem region_grown {P : Program} {id : Nat} {Q : Exit → Act → World → Prop} {a : Act} {w : World} {l : List Oper} (hm : P.follows .mixedOrders = true) (hB : Region.lexB .any l.toArray = true)
    (h : wpQuiet P l.toArray (fun w' => ∃ u : Gr w, w' = u.now) (fun a' => ∀ w', (∃ u : Gr w, w' = u.now) → Q .normal a' w') l a) : (Code.region id l.toArray true).wp P Q a w :=
  wp_region_quiet (C := fun w' => ∃ u : Gr w, w' = u.now) hm hB ⟨⟨w.drewN 1, below_drewN' (Below.refl _ _) 1⟩, rfl⟩ (by simpa using h)
theorem grown_of {P : Program} {f : FuncId} {args : Array Value} {w : World} {u : Gr w} {v : Value}
    (h : Calls P f args u.now fun e w' => e = .returned v ∧ Below u.now.heap.size u.now w') : Calls P f args u.now fun e w'' => e = .returned v ∧ ∃ u' : Gr w, w'' = u'.now :=
  h.mono fun _ w' ⟨he, hb⟩ => ⟨he, ⟨w', u.below.trans (hb.mono u.below.size)⟩, rfl⟩
theorem region_tail {P : Program} {id : Nat} {Q : Exit → Act → World → Prop} {a : Act} {w : World} {l : List Oper} (n : Nat) (hm : P.follows .mixedOrders = true) (hB : Region.lexTailB .any l.toArray n = true)
    (h : wpStill P l.toArray w.drew (fun a' => wpList P l.toArray Q (l.drop n) a' w.drew) (l.take n) a) : (Code.region id l.toArray true).wp P Q a w :=
  wp_region_still_tail n hm hB h
theorem Gr.cell {W w : World} (b o : Nat) (v : Value) (hb : Below W.heap.size W w) (hv : W.cell? ⟨b, o, none⟩ = some v) : ∀ u : Gr w, u.now.cell? ⟨b, o, none⟩ = some v :=
  fun u => by
    have hlt : b < W.heap.size := World.block_lt_of_cell? W _ hv
    have h2 := u.below.mono hb.size
    rw [(h2.cell (p := ⟨b, o, none⟩) hlt), hb.cell (p := ⟨b, o, none⟩) hlt]; exact hv
end Go.Proofs.YtakamedgdiffbaaDoor.NumC
