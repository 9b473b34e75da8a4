/-
  Contract of tree's reference: product.
-/
import Derived.Test.YtbgjdfghcnblcaaGreatDoorMTreeB
import Derived.Deep.RegionWith
namespace Go.Proofs.YtbgjdfghcnblcaaGreatDoor.TreeC
set_option linter.unusedVariables false
open Go.RowKit Go.Proofs.YtbgjdfghcnblcaaGreatDoor.NumC Go.Proofs.YtbgjdfghcnblcaaGreatDoor.LexC

theorem NLoc.drew {w : World} {b n c : Nat} {f : Fld} {A : Option Addr} (h : NLoc w b f A n c) : NLoc w.drew b f A n c := ⟨h.at_⟩
theorem NLoc.ten {w : World} {b n c : Nat} {f : Fld} {A : Option Addr} (h : NLoc w b f A n c) : w.cell? ⟨b, 0, none⟩ = some (.int .i64 f.k) ∧ w.cell? ⟨b, 1, none⟩ = some (.int .i64 f.vk) ∧ w.cell? ⟨b, 2, none⟩ = some (.int .i64 f.vn) ∧ w.cell? ⟨b, 3, none⟩ = some (.string f.vs) ∧ w.cell? ⟨b, 4, none⟩ = some (.int .i64 f.r1) ∧
    w.cell? ⟨b, 5, none⟩ = some (.int .i64 f.r2) ∧ w.cell? ⟨b, 6, none⟩ = some (.int .i64 f.r3) ∧ w.cell? ⟨b, 7, none⟩ = some (.int .i64 f.r4) ∧ w.cell? ⟨b, 8, none⟩ = some (.string f.op) ∧ w.cell? ⟨b, 9, none⟩ = some (.slice A n c) := by
  obtain ⟨h0, h1, h2, h3, h4, h5, h6, h7, h8, h9, -⟩ := h.cells
  exact ⟨h0, h1, h2, h3, h4, h5, h6, h7, h8, h9⟩
theorem NLoc.store {w : World} {b n c : Nat} {f : Fld} {A : Option Addr} (h : NLoc w b f A n c) (g : Fld) (B : Option Addr) (m d : Nat) :
    NLoc ((((((((((w.setCell ⟨b, 0, none⟩ (.int .i64 g.k)).setCell ⟨b, 1, none⟩ (.int .i64 g.vk)).setCell ⟨b, 2, none⟩ (.int .i64 g.vn)).setCell ⟨b, 3, none⟩ (.string g.vs)).setCell ⟨b, 4, none⟩ (.int .i64 g.r1)).setCell ⟨b, 5, none⟩ (.int .i64 g.r2)).setCell ⟨b, 6, none⟩ (.int .i64 g.r3)).setCell ⟨b, 7, none⟩ (.int .i64 g.r4)).setCell ⟨b, 8, none⟩ (.string g.op)).setCell ⟨b, 9, none⟩ (.slice B m d)) b g B m d := by
  have h1 := h.at_
  exact ⟨by simp [World.setCell, Array.getElem?_modify, h1]⟩
theorem pair_kids {w : World} {Q : Nat → Prop} {f g : Fld} {A B : Option Addr} {n m c d b : Nat} {ka kb : Fo} (hb : Q b) (h : w.heap[b]? = some (.cells ((nodeV f A n c).cells ++ (nodeV g B m d).cells) 30 (0, 0)))
    (hn : ka.len = n) (hm : kb.len = m) (hA : KidsAt w Q ka A) (hB : KidsAt w Q kb B) : KidsAt w Q ((Nd.one ⟨f, ka⟩).app (Nd.one ⟨g, kb⟩)) (some ⟨b, 0, none⟩) :=
  Or.inr ⟨b, 0, rfl, rowAt_block hb (vs := [nodeV f A n c, nodeV g B m d]) ⟨⟨A, c, by rw [hn], hA⟩, ⟨⟨B, d, by rw [hm], hB⟩, trivial⟩⟩ h rfl⟩
end Go.Proofs.YtbgjdfghcnblcaaGreatDoor.TreeC
