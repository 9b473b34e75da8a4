/-
  The landed code's graph is what the laws take it to be.
-/
import Derived.Test.YtakamedgdiffbaaGreatDoorPPlaysGraphS1
import Derived.Test.YtakamedgdiffbaaGreatDoorPPlaysGraphU5
import Derived.Test.YtakamedgdiffbaaGreatDoorPPlaysGraphG
namespace Go.Proofs.YtakamedgdiffbaaGreatDoor.GraphC
set_option linter.unusedVariables false
open Go.RowKit Go.Proofs.YtakamedgdiffbaaGreatDoor.NumC Go.Proofs.YtakamedgdiffbaaGreatDoor.RowsC
open Go.Proofs.YtakamedgdiffbaaGreatDoor.RefsC (Rc RAt hitsL RBox Srt)
open Go.Proofs.YtakamedgdiffbaaGreatDoor.TreeC (Kept)
theorem tab_lt {w : World} (h : KTab w) : 0 < w.heap.size := World.block_lt_of_cell? w _ (h 0 (by decide))
def AtG (w : World) (P : Nat → Prop) (v : Value) (G : Gl) : Prop := ∃ b mb, v = .pointer (some ⟨b, 0, none⟩) ∧ GV w P (.pointer (some ⟨b, 0, none⟩)) (some mb) G ∧ KTab w ∧ ¬ P 0
set_option maxHeartbeats 1000000 in
set_option maxRecDepth 100000 in
theorem cNewG (w : World) (hK : KTab w) : Calls Tryz.prog 4 #[] w fun e w' => ∃ v P, e = .returned v ∧ AtG w' P v [] ∧ (∀ k, P k → w.heap.size ≤ k) ∧ Below w.heap.size w w' := by
  have hb : Below w.heap.size w ((w.alloc (.map #[] 0)).alloc (.cells #[.map (some w.heap.size)] 48)) := ((Below.refl _ w).alloc (Nat.le_refl _) _).alloc (by simp) _
  have h1 : ((w.alloc (.map #[] 0)).alloc (.cells #[.map (some w.heap.size)] 48)).heap[w.heap.size]? = some (.map #[] 0) :=
    (((Below.refl _ (w.alloc (.map #[] 0))).alloc (Nat.le_refl _) (.cells #[.map (some w.heap.size)] 48)).block w.heap.size (by simp)).trans (heap_alloc_new _ _)
  have h2 : ((w.alloc (.map #[] 0)).alloc (.cells #[.map (some w.heap.size)] 48)).heap[w.heap.size + 1]? = some (.cells #[.map (some w.heap.size)] 48 (0, 0)) := by
    have := heap_alloc_new (w.alloc (.map #[] 0)) (.cells #[.map (some w.heap.size)] 48)
    rw [World.size_alloc] at this; exact this
  have hs : ((w.alloc (.map #[] 0)).alloc (.cells #[.map (some w.heap.size)] 48)).heap.size = w.heap.size + 2 := by simp
  have hlt := tab_lt hK
  have HF : Hid (∃ v P, Ending.returned (.pointer (some ⟨w.heap.size + 1, 0, none⟩)) = .returned v ∧ AtG ((w.alloc (.map #[] 0)).alloc (.cells #[.map (some w.heap.size)] 48)) P v [] ∧ (∀ k, P k → w.heap.size ≤ k) ∧ Below w.heap.size w ((w.alloc (.map #[] 0)).alloc (.cells #[.map (some w.heap.size)] 48))) := Lib.hid (by
    refine ⟨_, fun k => w.heap.size ≤ k ∧ k < w.heap.size + 2, rfl, ⟨_, w.heap.size, rfl, ⟨Or.inr ⟨_, rfl, h2, by omega⟩, ⟨⟨#[], Or.inr ⟨_, 0, rfl, h1, MapKept.stamped_empty 0, fun e h => (by simp at h)⟩, ⟨fun e h => (by simp at h), fun x h => (by cases h), rfl⟩⟩, fun b e => ?_, fun k hk => by rw [hs]; exact hk.2⟩, GoodG.nil, fun h => absurd rfl h⟩, hK.below hb, fun e => by omega⟩, fun k hk => hk.1, hb⟩
    cases e; omega)
  have hmk : (Instr.makeMap TM none).run Tryz.prog w = .ok (.map (some w.heap.size)) (w.alloc (.map #[] 0)) := run_makeMap TM w
  clear hb h1 h2 hs hlt
  go_enter Tryz.func4, Tryz.ntmps4
  go_wp2_with fail
  go_ret
  exact HF.out
theorem codeG : CodeG KTab AtG where
  keepK h hb := h.below hb
  toK h := by obtain ⟨b, mb, -, -, h, -⟩ := h; exact h
  keep h hK hs hk := by
    obtain ⟨b, mb, e, hg, -, hn⟩ := h
    exact ⟨b, mb, e, ⟨hg.ptr.keep hk, hg.map.keep hs hk, hg.good, fun _ => hK⟩, hK, hn⟩
  ptr h := by obtain ⟨b, mb, e, -⟩ := h; exact ⟨_, e⟩
  lt h := by obtain ⟨b, mb, -, h, -⟩ := h; exact h.map.2.2
  new w hK := cNewG w hK
  set := by
    intro w P v G a l A c h hbd hs hl hR _
    obtain ⟨b, mb, rfl, hg, hK, hn⟩ := h
    refine (cSet a l A c w hg hK hn hbd hs hl hR).mono ?_
    rintro e w' ⟨he, hbu, Q', hg', hK', hgr⟩
    exact ⟨he, hbu, Q', ⟨b, mb, rfl, hg', hK', fun e => (hgr _ e).elim hn (fun e => by have := tab_lt hK; omega)⟩, hgr⟩
  edges := by
    intro w P v G a h hbd hs
    obtain ⟨b, mb, rfl, hg, -, -⟩ := h
    exact cEdges a w hg hbd hs
  cells := by
    intro w P v G h hbd hs
    obtain ⟨b, mb, rfl, hg, -, -⟩ := h
    exact cCells w hg hs
  direct := by
    intro w P v G l A c h hbd hs hl hR
    obtain ⟨b, mb, rfl, hg, -, -⟩ := h
    exact cDirect l A c w hg hbd hs (by omega) hR
  reach := by
    intro w P v G l A c h hbd hs hl hR
    obtain ⟨b, mb, rfl, hg, -, -⟩ := h
    exact cReach l A c w hg hbd hs (by omega) hR
  loops := by
    intro w P v G h hbd hs
    obtain ⟨b, mb, rfl, hg, -, -⟩ := h
    exact cLoops w hg hbd hs
  order := by
    intro w P v G l A c h hbd hs hl hR
    obtain ⟨b, mb, rfl, hg, -, -⟩ := h
    exact cOrder l A c w hg hbd hs (by omega) hR
end Go.Proofs.YtakamedgdiffbaaGreatDoor.GraphC
