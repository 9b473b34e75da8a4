/-
  Contract of tree's code: copied.
-/
import Derived.Test.YtccigjelbnjcoaaGreatDoorPOfTreeP8
import Derived.Test.YtccigjelbnjcoaaGreatDoorPOfTreeP0
import Derived.Test.YtccigjelbnjcoaaGreatDoorPOfAddrF
import Derived.OwnWalk
import Derived.Deep.MidRow
namespace Go.Proofs.YtccigjelbnjcoaaGreatDoor.TreeC
set_option linter.unusedVariables false
open Go.RowKit Go.Proofs.YtccigjelbnjcoaaGreatDoor.NumC Go.Proofs.YtccigjelbnjcoaaGreatDoor.LexC
def CpPost (a : Nd) (w : World) (e : Ending) (w' : World) : Prop := ∃ A c, e = .returned (.agg #[.int .i64 a.f.k, .int .i64 a.f.vk, .int .i64 a.f.vn, .string a.f.vs, .int .i64 a.f.r1, .int .i64 a.f.r2, .int .i64 a.f.r3, .int .i64 a.f.r4, .string a.f.op, .slice A a.kids.len c]) ∧ Below w.heap.size w w' ∧ KidsAt w' (fun b => w.heap.size ≤ b) a.kids A
end Go.Proofs.YtccigjelbnjcoaaGreatDoor.TreeC
