/-
  A region that draws its order, whose operations read and whose callees make memory and no more: one walk in the order of the text serves every order. (Over the library's law 'wp_region_quiet', at the class of the worlds that have grown out of one.)
-/
import Derived.Test.YtakamedgdiffbaaDoorProg
import Derived.Test.YtakamedgdiffbaaDoorPRingNumM
import Derived.WalkKit
import Derived.WalkSpells
import Derived.WalkLawsBesides
import Derived.Deep.QuietTactic
import Derived.BigQuiet
import Derived.Lib.Hide
import Derived.Deep.Quiet
import Derived.StillTailTactics
import Derived.LoopN
namespace Go.Proofs.YtakamedgdiffbaaDoor.NumC
set_option linter.unusedVariables false
open Go.RowKit
structure Gr (w : World) where
  now : World
  below : Below w.heap.size w now
instance (w : World) : Inhabited (Gr w) := ⟨⟨w, Below.refl _ _⟩⟩
theorem below_drewN' {B : Nat} {a w : World} (h : Below B a w) (n : Nat) : Below B a (w.drewN n) := ⟨h.os, h.tape, h.output, h.size, h.block⟩
theorem region_tail {P : Program} {id : Nat} {Q : Exit → Act → World → Prop} {a : Act} {w : World} {l : List Oper} (n : Nat) (hm : P.follows .mixedOrders = true) (hB : Region.lexTailB .any l.toArray n = true)
    (h : wpStill P l.toArray w.drew (fun a' => wpList P l.toArray Q (l.drop n) a' w.drew) (l.take n) a) : (Code.region id l.toArray true).wp P Q a w :=
  wp_region_still_tail n hm hB h
end Go.Proofs.YtakamedgdiffbaaDoor.NumC
