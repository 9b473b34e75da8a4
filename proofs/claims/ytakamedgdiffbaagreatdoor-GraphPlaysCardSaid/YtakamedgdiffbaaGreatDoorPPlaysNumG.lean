/-
  A region that draws its order, whose operations read and whose callees make memory and no more: one walk in the order of the text serves every order. (Over the library's law 'wp_region_quiet', at the class of the worlds that have grown out of one.)
-/
import Derived.Test.YtakamedgdiffbaaGreatDoorProg
import Derived.Test.YtakamedgdiffbaaGreatDoorPPlaysNumM
import Derived.WalkKit
import Derived.WalkSpells
import Derived.WalkLawsBesides
import Derived.Deep.QuietTactic
import Derived.BigQuiet
import Derived.Lib.Hide
import Derived.Deep.Quiet
import Derived.StillTailTactics
import Derived.LoopN
import Derived.Orders
namespace Go.Proofs.YtakamedgdiffbaaGreatDoor.NumC
set_option linter.unusedVariables false
open Go.RowKit
structure Gr (w : World) where
  now : World
  below : Below w.heap.size w now
instance (w : World) : Inhabited (Gr w) := ⟨⟨w, Below.refl _ _⟩⟩
theorem below_drewN' {B : Nat} {a w : World} (h : Below B a w) (n : Nat) : Below B a (w.drewN n) := ⟨h.os, h.tape, h.output, h.size, h.block⟩
theorem region_tail {P : Program} {id : Nat} {Q : Exit → Act → World → Prop} {a : Act} {w : World} {l : List Oper} (n : Nat) (hm : P.follows .mixedOrders = true) (hB : Region.lexTailB .any l.toArray n = true)
    (h : wpStill P l.toArray w.drew (fun a' => wpList P l.toArray Q (l.drop n) a' w.drew) (l.take n) a) : (Code.region id l.toArray true).wp P Q a w :=
  wp_region_still_tail n hm hB h
end Go.Proofs.YtakamedgdiffbaaGreatDoor.NumC
namespace Go.Proofs.YtakamedgdiffbaaGreatDoor.NumC
set_option linter.unusedVariables false
open Go.RowKit
section
variable {P : Program} {ops : Array Oper} {Q : Exit → Act → World → Prop} {md : Region.Mode} {I : Array Bool → Act → World → Prop}
def downB (md : Region.Mode) (ops : Array Oper) : Bool :=
  (List.range ops.size).all fun i => ((ops[i]?).map (·.after.all fun e => !Region.binds md e || decide (e.on < i))).getD true
theorem down_of (h : downB md ops = true) (i : Nat) (o : Oper) (ho : ops[i]? = some o) : ∀ e ∈ o.after, Region.binds md e = true → e.on < i := by
  intro e he hb
  have hlt : i < ops.size := (Array.getElem?_eq_some_iff.1 ho).1
  have h1 := List.all_eq_true.1 h i (List.mem_range.2 hlt)
  rw [ho] at h1
  simp only [Option.map_some, Option.getD_some] at h1
  have h2 := Array.all_eq_true_iff_forall_mem.1 h1 e he
  simpa [hb] using h2
theorem ready_nil {listed : Array Bool} (hd : downB md ops = true) (hs : listed.size = ops.size) (hr : Region.ready md ops listed = []) : listed = Array.replicate ops.size true := by
  have key : ∀ j, j < ops.size → listed.getD j true = true := by
    intro j
    induction j using Nat.strongRecOn with
    | ind j ih =>
      intro hj
      cases h0 : listed.getD j true
      · exfalso
        have hm : j ∈ Region.ready md ops listed := mem_ready.2 ⟨h0, ops[j], by simp [hj], fun e he hb => by
          have hlt := down_of hd j ops[j] (by simp [hj]) e he hb
          have h2 := ih e.on hlt (by omega)
          have hlt2 : e.on < listed.size := by omega
          simpa [Array.getD, hlt2] using h2⟩
        rw [hr] at hm; exact (List.not_mem_nil hm).elim
      · rfl
  apply Array.ext
  · simpa using hs
  · intro i h1 h2
    have := key i (by omega)
    simpa [Array.getD, h1] using this
theorem ready_lt {listed : Array Bool} (hs : listed.size = ops.size) {i : Nat} (hi : i ∈ Region.ready md ops listed) : ∃ h : i < listed.size, listed[i] = false := by
  obtain ⟨h0, o, ho, -⟩ := mem_ready.1 hi
  have hlt : i < ops.size := (Array.getElem?_eq_some_iff.1 ho).1
  have hlt2 : i < listed.size := by omega
  exact ⟨hlt2, by simpa [Array.getD, hlt2] using h0⟩
theorem wpAny_inv (hd : downB md ops = true)
    (hstep : ∀ listed i a w, listed.size = ops.size → i ∈ Region.ready md ops listed → I listed a w → wpOp P ops Q i (I (listed.setIfInBounds i true)) a w)
    (hend : ∀ a w, I (Array.replicate ops.size true) a w → Q .normal a w) :
    ∀ fuel listed a w, listed.size = ops.size → listed.count false ≤ fuel → I listed a w → wpAny P md ops Q fuel listed a w := by
  intro fuel
  induction fuel with
  | zero =>
    intro listed a w hs hc h
    have hr : Region.ready md ops listed = [] := by
      apply List.eq_nil_iff_forall_not_mem.2
      intro i hi
      obtain ⟨hlt, hf⟩ := ready_lt hs hi
      have : 0 < listed.count false := Array.count_pos_iff.2 (hf ▸ Array.getElem_mem hlt)
      omega
    exact ⟨hr, hend _ _ (ready_nil hd hs hr ▸ h)⟩
  | succ fuel ih =>
    intro listed a w hs hc h
    refine ⟨fun hr => hend _ _ (ready_nil hd hs hr ▸ h), fun i hi => ?_⟩
    obtain ⟨hlt, hf⟩ := ready_lt hs hi
    refine wpOp_mono (fun a w hI => ih _ a w (by simpa using hs) ?_ hI) (hstep listed i a w hs hi h)
    have hpos : 0 < listed.count false := Array.count_pos_iff.2 (hf ▸ Array.getElem_mem hlt)
    have : (listed.setIfInBounds i true).count false = listed.count false - 1 := by
      rw [Array.setIfInBounds, dif_pos hlt, Array.count_set]
      simp [hf]
    omega
theorem region_inv {id : Nat} {a : Act} {w : World} (hm : P.follows .mixedOrders = true) (hd : downB .any ops = true)
    (hstep : ∀ listed i a w, listed.size = ops.size → i ∈ Region.ready .any ops listed → I listed a w → wpOp P ops Q i (I (listed.setIfInBounds i true)) a w)
    (hend : ∀ a w, I (Array.replicate ops.size true) a w → Q .normal a w)
    (h : I (Array.replicate ops.size false) a w.drew) : (Code.region id ops true).wp P Q a w :=
  wp_region_any hm (wpAny_inv hd hstep hend _ _ a _ (by simp) (by simp) h)
def onTo (K : Act → World → Prop) (Q : Exit → Act → World → Prop) : Exit → Act → World → Prop
  | .normal => K
  | x => Q x
theorem wpOp_list' {i : Nat} {o : Oper} {K : Act → World → Prop} {a : Act} {w : World} (hi : ops[i]? = some o) (h : wpList P ops (onTo K Q) [o] a w) : wpOp P ops Q i K a w := by
  unfold wpOp wpList at *
  rw [hi]
  simp only
  have up : ∀ r, o.upon P a (wpList P ops (onTo K Q) []) (onTo K Q) r → o.upon P a K Q r := by
    intro r h
    cases r with
    | ok n w' => cases n <;> exact h
    | halt x w' => cases x <;> exact h
  split
  · rename_i hw; rw [if_pos hw] at h
    exact h.imp (fun h => up _ h) (fun ⟨h1, h2⟩ => ⟨h1, h2⟩)
  · rename_i hw; rw [if_neg hw] at h; exact h
theorem wpOp_list {i : Nat} {o : Oper} {K : Act → World → Prop} {a : Act} {w : World} (hi : ops[i]? = some o) (h : ∀ Q' : Exit → Act → World → Prop, Hid (∀ a w, K a w → Q' .normal a w) → wpList P ops Q' [o] a w) : wpOp P ops Q i K a w :=
  wpOp_list' hi (h _ fun _ _ h => h)
def waitsB (md : Region.Mode) (ops : Array Oper) (i j : Nat) : Bool := ((ops[i]?).map (·.after.any fun e => Region.binds md e && e.on == j)).getD false
theorem waits_of {listed : Array Bool} {i : Nat} (hi : i ∈ Region.ready md ops listed) (j : Nat) (h : waitsB md ops i j = true) : listed.getD j false = true := by
  obtain ⟨-, o, ho, hall⟩ := mem_ready.1 hi
  unfold waitsB at h; rw [ho] at h
  simp only [Option.map_some, Option.getD_some, Array.any_eq_true', Bool.and_eq_true, beq_iff_eq] at h
  obtain ⟨e, he, hb, rfl⟩ := h
  exact hall e he hb
end
end Go.Proofs.YtakamedgdiffbaaGreatDoor.NumC
