/-
  Rows of single cells: one that is made, one that is stored into; what a growing step leaves of a row that is read.
-/
import Derived.Test.YtflpnpppljalaaaDoorRowsA
import Derived.Laws.OwnMore
namespace Go.Proofs.YtflpnpppljalaaaDoor.RowsC
set_option linter.unusedVariables false
open Go.RowKit

section
variable {α : Type} {f : α → List Value} {n : Nat} {ty : TypeId}
theorem Reads.grown {w w' : World} {M : Nat} {l : List α} {A : Option Addr} {row : Option Nat} (h : Reads f n w M l A) (hM : M ≤ w.heap.size) (hg : w.grownBy w' row) (hne : l ≠ [] → ∀ a, A = some a → row ≠ some a.block) : Reads f n w' M l A := by
  rcases h with h | ⟨g, o, e, hlt, h⟩
  · exact Or.inl h
  · exact Or.inr ⟨g, o, e, hlt, fun i x hx j u hj => hg.cell (h i x hx j u hj) (fun e' => hne (by rintro rfl; cases hx) _ e e'.symm)⟩
theorem Reads.eq {w : World} {M M' g g' : Nat} {l : List α} (h : Reads f n w M l (some ⟨g, 0, none⟩)) (hM : M = M') (hg : g = g') : Reads f n w M' l (some ⟨g', 0, none⟩) := by subst hM hg; exact h
theorem Owns.block {w : World} {B : Nat} {v : Value} {l : List α} (h : Owns f n ty w B v l) : ∀ a, (∃ m c, v = .slice (some a) m c) → v.ownBlock = some a.block := by
  rintro a ⟨m, c, rfl⟩; rfl
end
section
variable {α : Type} {f : α → List Value} {ty : TypeId}
/-- A row that is made. -/
theorem Owns.made {w : World} {B g m : Nat} {z : Value} {x : α} (hf : f x = [z]) (h : w.ownsRow B ty 1 (.slice (some ⟨g, 0, none⟩) m m) m (madeCells #[z] (m * 1)).toList) : Owns f 1 ty w B (.slice (some ⟨g, 0, none⟩) m m) (List.replicate m x) := by
  unfold Owns
  have e : (List.replicate m x).flatMap f = (madeCells #[z] (m * 1)).toList := by
    rw [toList_madeCells_one, Nat.mul_one]
    clear h
    induction m with
    | zero => rfl
    | succ m ih => rw [List.replicate_succ, List.flatMap_cons, ih, hf]; rfl
  rw [e, List.length_replicate]
  exact h
theorem flat_set (hf : ∀ x, (f x).length = 1) (l : List α) (i : Nat) (x : α) (u : Value) (hx : f x = [u]) : (l.set i x).flatMap f = (l.flatMap f).set i u := by
  induction l generalizing i with
  | nil => rfl
  | cons y l ih =>
    obtain ⟨v, hv⟩ := List.length_eq_one_iff.1 (hf y)
    cases i with
    | zero => rw [List.set_cons_zero, List.flatMap_cons, List.flatMap_cons, hx, hv]; rfl
    | succ i => rw [List.set_cons_succ, List.flatMap_cons, List.flatMap_cons, hv, ih]; rfl
/-- One cell is stored. -/
theorem Owns.stored (hf : ∀ x, (f x).length = 1) {w : World} {B g m c : Nat} {l : List α} (h : Owns f 1 ty w B (.slice (some ⟨g, 0, none⟩) m c) l) (hm : m = l.length) (i : Nat) (x : α) (u : Value) (hx : f x = [u]) :
    Owns f 1 ty (w.setCell ⟨g, i, none⟩ u) B (.slice (some ⟨g, 0, none⟩) m c) (l.set i x) ∧ w.grownBy (w.setCell ⟨g, i, none⟩ u) (some g) := by
  subst hm
  unfold Owns at h ⊢
  rw [flat_set hf l i x u hx, List.length_set]
  exact World.ownsRow.stored h i u
theorem Owns.cell1 {w : World} {B g m c : Nat} {l : List α} (h : Owns f 1 ty w B (.slice (some ⟨g, 0, none⟩) m c) l) (K : RowK f 1) (i : Nat) (x : α) (u : Value) (hi : l[i]? = some x) (hx : f x = [u]) : w.cell? ⟨g, i, none⟩ = some u := by
  have h2 := (World.ownsRow.cells (g := g) h rfl) i u (by
    have := K.nth l i x hi 0 u (by rw [hx]; rfl)
    simpa using this)
  rwa [addr_add0] at h2
theorem Owns.frozen1 {w : World} {B g m c : Nat} {l : List α} (h : Owns f 1 ty w B (.slice (some ⟨g, 0, none⟩) m c) l) (hm : m = l.length) (i : Nat) : w.frozen? ⟨g, i, none⟩ = false := by
  subst hm
  exact World.ownsRow.frozenAt h i
end
section
variable {α : Type} {f : α → List Value} {n : Nat} {ty : TypeId}
theorem Owns.single (K : RowK f n) (w : World) (B : Nat) (x : α) (hB : B ≤ w.heap.size) : Owns f n ty (w.alloc (.cells (f x).toArray ty)) B (.slice (some ⟨w.heap.size, 0, none⟩) 1 1) [x] := by
  have h := World.ownsRow_lit (base := B) (e := ty) (size := n) w (f x).toArray 1 hB (by decide) (by simp [K.len])
  unfold Owns
  simpa using h
end
/-- Truths. -/
def fB (b : Bool) : List Value := [.bool b]
/-- A block of truths holds no number. -/
theorem Owns.no_int {w : World} {B g gi o m : Nat} {k : IntKind} {v : Int} {l : List Bool} {ty : TypeId} (h : Owns fB 1 ty w B (.slice (some ⟨gi, 0, none⟩) m m) l) (hm : m = l.length) (hc : w.cell? ⟨g, o, none⟩ = some (.int k v)) : g ≠ gi := by
  rintro rfl
  obtain ⟨-, ⟨h2, -⟩ | ⟨g', cap, cur, e, -, hg, -, -, hs, ht⟩⟩ := h
  · cases h2
  · injection e with e1 e2 e3
    injection e1 with e1
    injection e1 with e1
    subst e1 e3
    rw [cell_of_row w g o cur ty (0, 0) hg] at hc
    rw [← hm, ← hs, List.take_of_length_le (by rw [Array.length_toList]; exact Nat.le_refl _)] at ht
    have : (.int k v : Value) ∈ cur.toList := by
      have := Array.mem_of_getElem? hc
      simpa using this
    rw [ht] at this
    obtain ⟨x, -, hx⟩ := List.mem_flatMap.1 this
    simp [fB] at hx
theorem bool_info : (Tryd.prog.info? 4).map (fun i => (i.zero, i.size, i.bytes)) = some (some (.bool false), 1, 1) := by kernel_rfl
end Go.Proofs.YtflpnpppljalaaaDoor.RowsC
