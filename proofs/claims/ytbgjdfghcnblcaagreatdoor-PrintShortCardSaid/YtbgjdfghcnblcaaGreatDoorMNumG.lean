/-
  A region that draws its order, whose operations read and whose callees make memory and no more: one walk in the order of the text serves every order. (Over the library's law 'wp_region_quiet', at the class of the worlds that have grown out of one.)
-/
import Derived.Test.YtbgjdfghcnblcaaGreatDoorMNumR
import Derived.Deep.Quiet
import Derived.StillTailTactics
import Derived.LoopN
import Derived.Orders
namespace Go.Proofs.YtbgjdfghcnblcaaGreatDoor.NumC
set_option linter.unusedVariables false
open Go.RowKit

/-- A world that has grown out of w: what was there is as it was. -/
structure Gr (w : World) where
  now : World
  below : Below w.heap.size w now
instance (w : World) : Inhabited (Gr w) := ⟨⟨w, Below.refl _ _⟩⟩
theorem below_drewN' {B : Nat} {a w : World} (h : Below B a w) (n : Nat) : Below B a (w.drewN n) := ⟨h.os, h.tape, h.output, h.size, h.block⟩

theorem region_grown {P : Program} {id : Nat} {Q : Exit → Act → World → Prop} {a : Act} {w : World} {l : List Oper} (hm : P.follows .mixedOrders = true) (hB : Region.lexB .any l.toArray = true)
    (h : wpQuiet P l.toArray (fun w' => ∃ u : Gr w, w' = u.now) (fun a' => ∀ w', (∃ u : Gr w, w' = u.now) → Q .normal a' w') l a) : (Code.region id l.toArray true).wp P Q a w :=
  wp_region_quiet (C := fun w' => ∃ u : Gr w, w' = u.now) hm hB ⟨⟨w.drewN 1, below_drewN' (Below.refl _ _) 1⟩, rfl⟩ (by simpa using h)

/-- A callee's contract, met in a world that has grown. -/
theorem grown_of {P : Program} {f : FuncId} {args : Array Value} {w : World} {u : Gr w} {v : Value}
    (h : Calls P f args u.now fun e w' => e = .returned v ∧ Below u.now.heap.size u.now w') : Calls P f args u.now fun e w'' => e = .returned v ∧ ∃ u' : Gr w, w'' = u'.now :=
  h.mono fun _ w' ⟨he, hb⟩ => ⟨he, ⟨w', u.below.trans (hb.mono u.below.size)⟩, rfl⟩
theorem grown_same {P : Program} {f : FuncId} {args : Array Value} {w : World} {u : Gr w} {v : Value}
    (h : Calls P f args u.now fun e w' => e = .returned v ∧ u.now = w') : Calls P f args u.now fun e w'' => e = .returned v ∧ ∃ u' : Gr w, w'' = u'.now :=
  h.mono fun _ _ ⟨he, hb⟩ => ⟨he, u, hb.symm⟩
/-- The same for a region that ends with stores: what is ahead of them reads, and calls what leaves the world as it is. -/
theorem region_tail {P : Program} {id : Nat} {Q : Exit → Act → World → Prop} {a : Act} {w : World} {l : List Oper} (n : Nat) (hm : P.follows .mixedOrders = true) (hB : Region.lexTailB .any l.toArray n = true)
    (h : wpStill P l.toArray w.drew (fun a' => wpList P l.toArray Q (l.drop n) a' w.drew) (l.take n) a) : (Code.region id l.toArray true).wp P Q a w :=
  wp_region_still_tail n hm hB h
/-- A cell that was there. -/
theorem Gr.cell {W w : World} (b o : Nat) (v : Value) (hb : Below W.heap.size W w) (hv : W.cell? ⟨b, o, none⟩ = some v) : ∀ u : Gr w, u.now.cell? ⟨b, o, none⟩ = some v :=
  fun u => by
    have hlt : b < W.heap.size := World.block_lt_of_cell? W _ hv
    have h2 := u.below.mono hb.size
    rw [(h2.cell (p := ⟨b, o, none⟩) hlt), hb.cell (p := ⟨b, o, none⟩) hlt]; exact hv
end Go.Proofs.YtbgjdfghcnblcaaGreatDoor.NumC

/-
  A region that draws its order, served by an invariant over what has been listed: one obligation for each operation, however many orders there are.
-/
namespace Go.Proofs.YtbgjdfghcnblcaaGreatDoor.NumC
set_option linter.unusedVariables false
open Go.RowKit

section
variable {P : Program} {ops : Array Oper} {Q : Exit → Act → World → Prop} {md : Region.Mode} {I : Array Bool → Act → World → Prop}

/-- Each operation waits only for earlier ones. -/
def downB (md : Region.Mode) (ops : Array Oper) : Bool :=
  (List.range ops.size).all fun i => ((ops[i]?).map (·.after.all fun e => !Region.binds md e || decide (e.on < i))).getD true
theorem down_of (h : downB md ops = true) (i : Nat) (o : Oper) (ho : ops[i]? = some o) : ∀ e ∈ o.after, Region.binds md e = true → e.on < i := by
  intro e he hb
  have hlt : i < ops.size := (Array.getElem?_eq_some_iff.1 ho).1
  have h1 := List.all_eq_true.1 h i (List.mem_range.2 hlt)
  rw [ho] at h1
  simp only [Option.map_some, Option.getD_some] at h1
  have h2 := Array.all_eq_true_iff_forall_mem.1 h1 e he
  simpa [hb] using h2
theorem ready_nil {listed : Array Bool} (hd : downB md ops = true) (hs : listed.size = ops.size) (hr : Region.ready md ops listed = []) : listed = Array.replicate ops.size true := by
  have key : ∀ j, j < ops.size → listed.getD j true = true := by
    intro j
    induction j using Nat.strongRecOn with
    | ind j ih =>
      intro hj
      cases h0 : listed.getD j true
      · exfalso
        have hm : j ∈ Region.ready md ops listed := mem_ready.2 ⟨h0, ops[j], by simp [hj], fun e he hb => by
          have hlt := down_of hd j ops[j] (by simp [hj]) e he hb
          have h2 := ih e.on hlt (by omega)
          have hlt2 : e.on < listed.size := by omega
          simpa [Array.getD, hlt2] using h2⟩
        rw [hr] at hm; exact (List.not_mem_nil hm).elim
      · rfl
  apply Array.ext
  · simpa using hs
  · intro i h1 h2
    have := key i (by omega)
    simpa [Array.getD, h1] using this
theorem ready_lt {listed : Array Bool} (hs : listed.size = ops.size) {i : Nat} (hi : i ∈ Region.ready md ops listed) : ∃ h : i < listed.size, listed[i] = false := by
  obtain ⟨h0, o, ho, -⟩ := mem_ready.1 hi
  have hlt : i < ops.size := (Array.getElem?_eq_some_iff.1 ho).1
  have hlt2 : i < listed.size := by omega
  exact ⟨hlt2, by simpa [Array.getD, hlt2] using h0⟩
theorem wpAny_inv (hd : downB md ops = true)
    (hstep : ∀ listed i a w, listed.size = ops.size → i ∈ Region.ready md ops listed → I listed a w → wpOp P ops Q i (I (listed.setIfInBounds i true)) a w)
    (hend : ∀ a w, I (Array.replicate ops.size true) a w → Q .normal a w) :
    ∀ fuel listed a w, listed.size = ops.size → listed.count false ≤ fuel → I listed a w → wpAny P md ops Q fuel listed a w := by
  intro fuel
  induction fuel with
  | zero =>
    intro listed a w hs hc h
    have hr : Region.ready md ops listed = [] := by
      apply List.eq_nil_iff_forall_not_mem.2
      intro i hi
      obtain ⟨hlt, hf⟩ := ready_lt hs hi
      have : 0 < listed.count false := Array.count_pos_iff.2 (hf ▸ Array.getElem_mem hlt)
      omega
    exact ⟨hr, hend _ _ (ready_nil hd hs hr ▸ h)⟩
  | succ fuel ih =>
    intro listed a w hs hc h
    refine ⟨fun hr => hend _ _ (ready_nil hd hs hr ▸ h), fun i hi => ?_⟩
    obtain ⟨hlt, hf⟩ := ready_lt hs hi
    refine wpOp_mono (fun a w hI => ih _ a w (by simpa using hs) ?_ hI) (hstep listed i a w hs hi h)
    have hpos : 0 < listed.count false := Array.count_pos_iff.2 (hf ▸ Array.getElem_mem hlt)
    have : (listed.setIfInBounds i true).count false = listed.count false - 1 := by
      rw [Array.setIfInBounds, dif_pos hlt, Array.count_set]
      simp [hf]
    omega
theorem region_inv {id : Nat} {a : Act} {w : World} (hm : P.follows .mixedOrders = true) (hd : downB .any ops = true)
    (hstep : ∀ listed i a w, listed.size = ops.size → i ∈ Region.ready .any ops listed → I listed a w → wpOp P ops Q i (I (listed.setIfInBounds i true)) a w)
    (hend : ∀ a w, I (Array.replicate ops.size true) a w → Q .normal a w)
    (h : I (Array.replicate ops.size false) a w.drew) : (Code.region id ops true).wp P Q a w :=
  wp_region_any hm (wpAny_inv hd hstep hend _ _ a _ (by simp) (by simp) h)
/-- The way on from one operation. -/
def onTo (K : Act → World → Prop) (Q : Exit → Act → World → Prop) : Exit → Act → World → Prop
  | .normal => K
  | x => Q x
theorem wpOp_list' {i : Nat} {o : Oper} {K : Act → World → Prop} {a : Act} {w : World} (hi : ops[i]? = some o) (h : wpList P ops (onTo K Q) [o] a w) : wpOp P ops Q i K a w := by
  unfold wpOp wpList at *
  rw [hi]
  simp only
  have up : ∀ r, o.upon P a (wpList P ops (onTo K Q) []) (onTo K Q) r → o.upon P a K Q r := by
    intro r h
    cases r with
    | ok n w' => cases n <;> exact h
    | halt x w' => cases x <;> exact h
  split
  · rename_i hw; rw [if_pos hw] at h
    exact h.imp (fun h => up _ h) (fun ⟨h1, h2⟩ => ⟨h1, h2⟩)
  · rename_i hw; rw [if_neg hw] at h; exact h
/-- One operation, walked as a list of one. -/
theorem wpOp_list {i : Nat} {o : Oper} {K : Act → World → Prop} {a : Act} {w : World} (hi : ops[i]? = some o) (h : ∀ Q' : Exit → Act → World → Prop, Hid (∀ a w, K a w → Q' .normal a w) → wpList P ops Q' [o] a w) : wpOp P ops Q i K a w :=
  wpOp_list' hi (h _ fun _ _ h => h)
/-- What an operation that is ready knows of those that it waits for. -/
def waitsB (md : Region.Mode) (ops : Array Oper) (i j : Nat) : Bool := ((ops[i]?).map (·.after.any fun e => Region.binds md e && e.on == j)).getD false
theorem waits_of {listed : Array Bool} {i : Nat} (hi : i ∈ Region.ready md ops listed) (j : Nat) (h : waitsB md ops i j = true) : listed.getD j false = true := by
  obtain ⟨-, o, ho, hall⟩ := mem_ready.1 hi
  unfold waitsB at h; rw [ho] at h
  simp only [Option.map_some, Option.getD_some, Array.any_eq_true', Bool.and_eq_true, beq_iff_eq] at h
  obtain ⟨e, he, hb, rfl⟩ := h
  exact hall e he hb
theorem wpOp_of_list {i : Nat} {o : Oper} {rest : List Oper} {a : Act} {w : World} (hi : ops[i]? = some o) (h : wpList P ops Q (o :: rest) a w) : wpOp P ops Q i (wpList P ops Q rest) a w := by
  unfold wpOp; rw [hi]; exact h
/-- The last operations from n on come in their order. -/
def tailB (ops : Array Oper) (n : Nat) : Bool := (List.range ops.size).all fun i => decide (i ≤ n) || waitsB .any ops i (i - 1)
def TailI (P : Program) (l : List Oper) (Q : Exit → Act → World → Prop) (n : Nat) (I : Array Bool → Act → World → Prop) (listed : Array Bool) (a : Act) (w : World) : Prop :=
  (I listed a w ∧ ∀ j, n ≤ j → listed.getD j false = false) ∨ ∃ m, n < m ∧ m ≤ l.length ∧ (∀ j, listed.getD j false = decide (j < m)) ∧ wpList P l.toArray Q (l.drop m) a w
theorem region_inv_tail {id n : Nat} {l : List Oper} {a : Act} {w : World} (hm : P.follows .mixedOrders = true) (hd : downB .any l.toArray = true) (ht : tailB l.toArray n = true) (hn : n < l.length)
    (hstep : ∀ listed i a w, i < n → i ∈ Region.ready .any l.toArray listed → I listed a w → wpOp P l.toArray Q i (I (listed.setIfInBounds i true)) a w)
    (hlast : ∀ listed a w, n ∈ Region.ready .any l.toArray listed → I listed a w → (∀ j, j < n → listed.getD j false = true) ∧ wpList P l.toArray Q (l.drop n) a w)
    (h : I (Array.replicate l.length false) a w.drew) : (Code.region id l.toArray true).wp P Q a w := by
  have wait : ∀ i, i < l.length → n < i → waitsB .any l.toArray i (i - 1) = true := by
    intro i hi hni
    have h1 := List.all_eq_true.1 ht i (List.mem_range.2 (by simpa using hi))
    rcases Bool.or_eq_true _ _ ▸ h1 with h2 | h2
    · have := of_decide_eq_true h2; omega
    · exact h2
  refine region_inv (I := TailI P l Q n I) hm hd ?_ ?_ (.inl ⟨by simpa using h, fun j hj => by simp [Array.getD]⟩)
  · intro listed i a w hs hi hI
    have hs' : listed.size = l.length := by simpa using hs
    obtain ⟨hlt, hf⟩ := ready_lt hs hi
    have hil : i < l.length := by omega
    have hoi : l.toArray[i]? = some l[i] := by simp [hil]
    have hdrop : l.drop i = l[i] :: l.drop (i + 1) := List.drop_eq_getElem_cons hil
    have fin : (∀ j, listed.getD j false = decide (j < i)) → n ≤ i → wpList P l.toArray Q (l.drop i) a w → wpOp P l.toArray Q i (TailI P l Q n I (listed.setIfInBounds i true)) a w := by
      intro hj hni hw
      rw [hdrop] at hw
      refine wpOp_mono (fun a w hK => .inr ⟨i + 1, by omega, by omega, fun j => ?_, hK⟩) (wpOp_of_list hoi hw)
      by_cases hij : i = j
      · subst hij; simp [Array.getD, hlt]
      · rw [getD_set_ne false hij, hj j]; apply decide_eq_decide.2; omega
    rcases hI with ⟨h1, h2⟩ | ⟨m, hnm, hml, hj, hw⟩
    · by_cases hin : i < n
      · refine wpOp_mono (fun a w hK => .inl ⟨hK, fun j hj => ?_⟩) (hstep listed i a w hin hi h1)
        rw [getD_set_ne false (by omega)]; exact h2 j hj
      · by_cases he : i = n
        · subst he
          obtain ⟨h3, h4⟩ := hlast listed a w hi h1
          refine fin (fun j => ?_) (Nat.le_refl _) h4
          by_cases hji : j < i
          · rw [h3 j hji, decide_eq_true hji]
          · rw [h2 j (by omega), decide_eq_false hji]
        · exfalso
          have := waits_of hi (i - 1) (wait i hil (by omega))
          rw [h2 (i - 1) (by omega)] at this; exact Bool.noConfusion this
    · have hfi : listed.getD i false = false := by simp [Array.getD, hlt, hf]
      have hge : m ≤ i := by
        have := hj i; rw [hfi] at this
        have := of_decide_eq_false this.symm; omega
      by_cases he : i = m
      · subst he; exact fin hj (by omega) hw
      · exfalso
        have := waits_of hi (i - 1) (wait i hil (by omega))
        rw [hj (i - 1)] at this
        have := of_decide_eq_true this; omega
  · intro a w hI
    have full : ∀ j, j < l.length → (Array.replicate l.toArray.size true).getD j false = true := by intro j hj; simp [Array.getD, hj]
    rcases hI with ⟨h1, h2⟩ | ⟨m, hnm, hml, hj, hw⟩
    · have := h2 n (Nat.le_refl _); rw [full n hn] at this; exact Bool.noConfusion this
    · by_cases hme : m = l.length
      · subst hme; simpa [wpList] using hw
      · exfalso
        have := hj m; rw [full m (by omega)] at this
        have := of_decide_eq_true this.symm; omega
end
end Go.Proofs.YtbgjdfghcnblcaaGreatDoor.NumC
