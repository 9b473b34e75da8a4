/-
  Rows of records of any kind in memory: a row that is read, a row of the call's own, and one with what is read behind it.
-/
import Derived.Maps.AppendAt
import Derived.OwnWalk
import Derived.Deep.AppendLies
import Derived.Test.YtflpnpppljalaaaDoorNumM
import Derived.Test.YtflpnpppljalaaaDoorChecked
namespace Go.Proofs.YtflpnpppljalaaaDoor.RowsC
set_option linter.unusedVariables false
open Go.RowKit

theorem addr_add0 (g j : Nat) : (⟨g, 0, none⟩ : Addr).add j = ⟨g, j, none⟩ := by unfold Addr.add; split <;> simp_all
theorem addr_add (g i j : Nat) : (⟨g, i, none⟩ : Addr).add j = ⟨g, i + j, none⟩ := by
  unfold Addr.add
  split
  · rename_i h; subst h; rfl
  · rfl
theorem at_some {α : Type} (l : List α) (i : Nat) (h : i < l.length) : ∃ x, l[i]? = some x := ⟨l[i], List.getElem?_eq_getElem h⟩

/-- Records of so many cells each. -/
structure RowK {α : Type} (f : α → List Value) (n : Nat) : Prop where
  len : ∀ x, (f x).length = n
  one : ∀ x u, u ∈ f x → u.oneCell' = true
  pos : 0 < n
section
variable {α : Type} {f : α → List Value} {n : Nat}
theorem RowK.flat (K : RowK f n) (l : List α) : (l.flatMap f).length = l.length * n := by
  induction l with
  | nil => simp
  | cons x l ih => rw [List.flatMap_cons, List.length_append, ih, K.len, List.length_cons, Nat.succ_mul]; omega
theorem RowK.ones (K : RowK f n) (l : List α) : ∀ u ∈ l.flatMap f, u.oneCell' = true := by
  intro u hu
  obtain ⟨x, -, h⟩ := List.mem_flatMap.1 hu
  exact K.one x u h
theorem RowK.nth (K : RowK f n) (l : List α) : ∀ (i : Nat) (x : α), l[i]? = some x → ∀ j u, (f x)[j]? = some u → (l.flatMap f)[i * n + j]? = some u := by
  induction l with
  | nil => intro i x h; cases h
  | cons y l ih =>
    intro i x h j u hj
    have hjn : j < n := by rw [← K.len x]; exact (List.getElem?_eq_some_iff.1 hj).1
    rw [List.flatMap_cons]
    cases i with
    | zero =>
      cases h
      rw [Nat.zero_mul, Nat.zero_add, List.getElem?_append_left (by rw [K.len]; exact hjn)]
      exact hj
    | succ i =>
      rw [List.getElem?_append_right (by rw [K.len, Nat.succ_mul]; omega), K.len, show (i + 1) * n + j - n = i * n + j by rw [Nat.succ_mul]; omega]
      exact ih i x (by simpa using h) j u hj
theorem RowK.back (K : RowK f n) (l : List α) (j : Nat) (u : Value) (hj : (l.flatMap f)[j]? = some u) : ∃ x, l[j / n]? = some x ∧ (f x)[j % n]? = some u := by
  induction l generalizing j with
  | nil => cases hj
  | cons y l ih =>
    rw [List.flatMap_cons] at hj
    by_cases h : j < n
    · rw [List.getElem?_append_left (by rw [K.len]; exact h)] at hj
      exact ⟨y, by rw [Nat.div_eq_of_lt h]; rfl, by rw [Nat.mod_eq_of_lt h]; exact hj⟩
    · rw [List.getElem?_append_right (by rw [K.len]; omega), K.len] at hj
      obtain ⟨x, h1, h2⟩ := ih _ hj
      have e1 : j / n = (j - n) / n + 1 := by rw [← Nat.add_div_right _ K.pos]; congr 1; omega
      have e2 : j % n = (j - n) % n := by rw [← Nat.add_mod_right (j - n) n]; congr 1; omega
      exact ⟨x, by rw [e1]; exact h1, by rw [e2]; exact h2⟩
end

section
variable {α : Type} (f : α → List Value) (n : Nat)
/-- A row that reads as these records, in a block ahead of B. -/
def Reads (w : World) (B : Nat) (l : List α) (A : Option Addr) : Prop :=
  l = [] ∨ ∃ g o, A = some ⟨g, o, none⟩ ∧ g < B ∧ ∀ i x, l[i]? = some x → ∀ j u, (f x)[j]? = some u → w.cell? ⟨g, o + i * n + j, none⟩ = some u
/-- A row of the call's own. -/
def Owns (ty : TypeId) (w : World) (B : Nat) (v : Value) (l : List α) : Prop := w.ownsRow B ty n v l.length (l.flatMap f)
/-- A record in a block of its own. -/
def Boxed (ty : TypeId) (w : World) (b : Nat) (x : α) : Prop := w.heap[b]? = some (.cells (f x).toArray ty (0, 0))
end
section
variable {α : Type} {f : α → List Value} {n : Nat} {ty : TypeId}
theorem Reads.nil (w : World) (B : Nat) (A : Option Addr) : Reads f n w B [] A := Or.inl rfl
theorem Reads.below {w w' : World} {B : Nat} {l : List α} {A : Option Addr} (h : Reads f n w B l A) (hb : Below B w w') : Reads f n w' B l A := by
  rcases h with h | ⟨g, o, e, hg, h⟩
  · exact Or.inl h
  · exact Or.inr ⟨g, o, e, hg, fun i x hx j u hj => (hb.cell (p := ⟨g, _, none⟩) hg).trans (h i x hx j u hj)⟩
theorem Reads.mono {w : World} {B C : Nat} {l : List α} {A : Option Addr} (h : Reads f n w B l A) (hb : B ≤ C) : Reads f n w C l A := by
  rcases h with h | ⟨g, o, e, hg, h⟩
  · exact Or.inl h
  · exact Or.inr ⟨g, o, e, by omega, h⟩
theorem Reads.nth {w : World} {B : Nat} {l : List α} {A : Option Addr} (h : Reads f n w B l A) (i : Nat) (x : α) (hx : l[i]? = some x) :
    ∃ g o, A = some ⟨g, o, none⟩ ∧ g < B ∧ ∀ j u, (f x)[j]? = some u → w.cell? ⟨g, o + i * n + j, none⟩ = some u := by
  rcases h with h | ⟨g, o, e, hg, h⟩
  · rw [h] at hx; cases hx
  · exact ⟨g, o, e, hg, h i x hx⟩
theorem Reads.take {w : World} {B : Nat} {l : List α} {A : Option Addr} (h : Reads f n w B l A) (k : Nat) : Reads f n w B (l.take k) A := by
  rcases h with h | ⟨g, o, e, hg, h⟩
  · left; rw [h, List.take_nil]
  · refine Or.inr ⟨g, o, e, hg, fun i x hx => h i x ?_⟩
    rw [List.getElem?_take] at hx
    split at hx
    · exact hx
    · cases hx
theorem Reads.drop {w : World} {B g o : Nat} {l : List α} (h : Reads f n w B l (some ⟨g, o, none⟩)) (k : Nat) : Reads f n w B (l.drop k) (some ⟨g, o + k * n, none⟩) := by
  rcases h with h | ⟨g', o', e, hg, h⟩
  · left; rw [h, List.drop_nil]
  · injection e with e
    injection e with e1 e2
    subst e1 e2
    refine Or.inr ⟨g, o + k * n, rfl, hg, fun i x hx j u hj => ?_⟩
    rw [List.getElem?_drop] at hx
    have := h _ x hx j u hj
    rwa [show o + (k + i) * n + j = o + k * n + i * n + j by rw [Nat.add_mul]; omega] at this
theorem Reads.cells (K : RowK f n) {w : World} {B : Nat} {l : List α} {A : Option Addr} (h : Reads f n w B l A) (hne : l ≠ []) :
    ∃ g o, A = some ⟨g, o, none⟩ ∧ g < B ∧ ∀ j u, (l.flatMap f)[j]? = some u → w.cell? ⟨g, o + j, none⟩ = some u := by
  rcases h with h | ⟨g, o, e, hg, h⟩
  · exact absurd h hne
  · refine ⟨g, o, e, hg, fun j u hj => ?_⟩
    obtain ⟨x, hx, hu⟩ := K.back l j u hj
    have := h _ x hx _ u hu
    have e : j / n * n + j % n = j := by rw [Nat.mul_comm]; exact Nat.div_add_mod j n
    rwa [Nat.add_assoc, e] at this
theorem Reads.drew {w : World} {B : Nat} {l : List α} {A : Option Addr} (h : Reads f n w B l A) : Reads f n w.drew B l A := h

theorem Owns.nil (w : World) (B : Nat) : Owns f n ty w B (.slice none 0 0) [] := ⟨by simp, Or.inl ⟨rfl, rfl⟩⟩
theorem Owns.empty (w : World) (B : Nat) (hB : B ≤ w.heap.size) : Owns f n ty (w.alloc (.cells #[] ty)) B (.slice (some ⟨w.heap.size, 0, none⟩) 0 0) [] := ⟨by simp, Or.inr ⟨_, 0, #[], rfl, hB, heap_alloc_new _ _, Nat.le_refl _, Nat.zero_le _, by simp, by simp⟩⟩
theorem Owns.form {w : World} {B : Nat} {v : Value} {l : List α} (h : Owns f n ty w B v l) : ∃ A c, v = .slice A l.length c ∧ l.length ≤ c ∧ (A = none → c = 0) ∧ (∀ a, A = some a → ∃ g, a = ⟨g, 0, none⟩) := by
  obtain ⟨-, ⟨rfl, h⟩ | ⟨g, cap, cur, rfl, -, -, h, -⟩⟩ := h
  · exact ⟨none, 0, by rw [h], by omega, fun _ => rfl, fun a h => by cases h⟩
  · exact ⟨_, _, rfl, h, (fun h => by cases h), fun a h => by cases h; exact ⟨g, rfl⟩⟩
theorem Owns.lt {w : World} {B : Nat} {v : Value} {l : List α} (h : Owns f n ty w B v l) : ∀ k, v.ownBlock = some k → B ≤ k ∧ k < w.heap.size := World.ownsRow.lt h
theorem Owns.below {w w' : World} {B : Nat} {v : Value} {l : List α} (h : Owns f n ty w B v l) (hk : Below w.heap.size w w') : Owns f n ty w' B v l := by
  obtain ⟨h1, h2⟩ := h
  refine ⟨h1, ?_⟩
  rcases h2 with h2 | ⟨g, cap, cur, e, hb, hg, h⟩
  · exact Or.inl h2
  · exact Or.inr ⟨g, cap, cur, e, hb, (hk.block g (Array.getElem?_eq_some_iff.1 hg).1).trans hg, h⟩
theorem Owns.grown {w w' : World} {B : Nat} {v : Value} {l : List α} {row : Option Nat} (h : Owns f n ty w B v l) (hg : w.grownBy w' row) (hne : v.ownBlock = none ∨ v.ownBlock ≠ row) : Owns f n ty w' B v l := World.ownsRow.kept h hg hne
theorem Owns.mono {w : World} {B C : Nat} {v : Value} {l : List α} (h : Owns f n ty w B v l) (hb : C ≤ B) : Owns f n ty w C v l := by
  obtain ⟨h1, h2⟩ := h
  refine ⟨h1, ?_⟩
  rcases h2 with h2 | ⟨g, cap, cur, e, hb2, h⟩
  · exact Or.inl h2
  · exact Or.inr ⟨g, cap, cur, e, Nat.le_trans hb hb2, h⟩
theorem Owns.reads (K : RowK f n) {w : World} {B c m : Nat} {A : Option Addr} {l : List α} (h : Owns f n ty w B (.slice A m c) l) : m = l.length ∧ Reads f n w w.heap.size l A := by
  have hc := fun g hg => World.ownsRow.cells (g := g) h hg
  obtain ⟨h1, ⟨h2, h3⟩ | ⟨g, cap, cur, e, hb, hg, h2⟩⟩ := h
  · cases h2; exact ⟨h3.symm, Or.inl (List.length_eq_zero_iff.1 h3)⟩
  · injection e with e1 e2 e3
    subst e1 e2 e3
    refine ⟨rfl, Or.inr ⟨g, 0, rfl, (Array.getElem?_eq_some_iff.1 hg).1, fun i x hx j u hj => ?_⟩⟩
    have := hc g rfl _ u (K.nth l i x hx j u hj)
    rwa [addr_add0, ← Nat.zero_add (i * n)] at this
theorem Boxed.new (w : World) (x : α) : Boxed f ty (w.alloc (.cells (f x).toArray ty)) w.heap.size x := heap_alloc_new _ _
theorem Boxed.lt {w : World} {b : Nat} {x : α} (h : Boxed f ty w b x) : b < w.heap.size := (Array.getElem?_eq_some_iff.1 h).1
theorem Boxed.below {w w' : World} {b m : Nat} {x : α} (h : Boxed f ty w b x) (hb : Below m w w') (hn : b < m) : Boxed f ty w' b x := (hb.block b hn).trans h
theorem Boxed.grown {u u' : World} {j : Nat} {x : α} {row : Option Nat} (h : Boxed f ty u j x) (hg : u.grownBy u' row) (hne : row ≠ some j) : Boxed f ty u' j x := (hg.block j h.lt (fun e => hne e.symm)).trans h
theorem Boxed.cells {w : World} {b : Nat} {x : α} (h : Boxed f ty w b x) : ∀ j u, (f x)[j]? = some u → w.cell? ⟨b, j, none⟩ = some u := by
  intro j u hj
  have := World.news_of_block h j u hj
  rwa [addr_add0] at this
theorem Boxed.reads {w : World} {b : Nat} {x : α} (h : Boxed f ty w b x) : Reads f n w w.heap.size [x] (some ⟨b, 0, none⟩) := by
  refine Or.inr ⟨b, 0, rfl, h.lt, fun i y hy j u hj => ?_⟩
  cases i with
  | zero => cases hy; rw [Nat.zero_mul, Nat.zero_add]; exact h.cells j u hj
  | succ i => cases hy

/-- What a kind of rows has to have. -/
structure Kind (f : α → List Value) (n : Nat) (sl ty : TypeId) : Prop where
  row : RowK f n
  under : Tryd.prog.underlying sl = some (.slice ty)
  info : ∃ z by_, (Tryd.prog.info? ty).map (fun i => (i.zero, i.size, i.bytes)) = some (some z, n, by_) ∧ z.cells.size = n ∧ by_ ≤ 1000000
variable {sl : TypeId}
/-- A row of one's own with what is read behind it. -/
theorem run_owns (K : Kind f n sl ty) (rt : TypeId) {u : World} {N M c : Nat} {v : Value} {l m : List α} {A : Option Addr} (ho : Owns f n ty u N v l) (hr : Reads f n u M m A) (hN : N ≤ u.heap.size) (hl : l.length + m.length ≤ 100000000) :
    ∃ v' u', (Builtin.append_ #[sl, sl] rt #[v, .slice A m.length c]).run Tryd.prog u = .ok v' u' ∧ Owns f n ty u' N v' (l ++ m) ∧ u.grownBy u' v.ownBlock ∧ (v'.ownBlock = v.ownBlock ∨ v'.ownBlock = some u.heap.size) := by
  obtain ⟨z, by_, hi, hzs, hby⟩ := K.info
  obtain ⟨i0, hi0, hz0, hz1, hz2⟩ := info_parts hi
  have hbytes : (l.length + m.length) * by_ ≤ 140737488355328 := by
    have : (l.length + m.length) * by_ ≤ 100000000 * 1000000 := Nat.mul_le_mul hl hby
    omega
  cases A with
  | none =>
    have hm : m = [] := by
      rcases hr with h | ⟨g, o, e, -⟩
      · exact h
      · cases e
    subst hm
    refine ⟨v, u, ?_, by rw [List.append_nil]; exact ho, ⟨rfl, rfl, rfl, Nat.le_refl _, fun _ _ _ => rfl⟩, Or.inl rfl⟩
    rcases ho.2 with ⟨rfl, h0⟩ | ⟨g, cap, cur, rfl, _, _, hnc, _⟩
    · simp [Builtin.append_, run_underlying K.under, sizeOf, typeInfo, hi0, Builtin.lenOf, Builtin.firstCells]
    · simp [Builtin.append_, run_underlying K.under, sizeOf, typeInfo, hi0, Builtin.lenOf, Builtin.firstCells, hnc, storeCells]
  | some a =>
    have hnews : ∀ j w, (m.flatMap f)[j]? = some w → u.cell? (a.add j) = some w := by
      by_cases hm : m = []
      · subst hm; intro j w h; cases h
      · obtain ⟨g, o, e, -, h⟩ := hr.cells K.row hm
        injection e with e
        subst e
        intro j w hj
        rw [addr_add]; exact h j w hj
    obtain ⟨v', u', h1, h2, h3, -, h5⟩ := run_append_own_at (P := Tryd.prog) u N sl rt ty i0 _ n by_ K.under hi0 hz0 hz1 hz2 hzs K.row.pos v l.length (l.flatMap f) ho a m.length c (m.flatMap f) (K.row.flat m) hnews (K.row.ones m) (by unfold maxLen; omega) hbytes hN
    refine ⟨v', u', h1, ?_, h3, h5⟩
    unfold Owns
    rw [List.flatMap_append, List.length_append]; exact h2
theorem wpList_append_owns (K : Kind f n sl ty) {ops : Array Oper} {rest : List Oper} {o : Oper} {a : Act} {Q : Exit → Act → World → Prop} (w : World) (hgd : o.guard = none) (s x : Operand) (ho : o.op = .call { callee := .builtin .append, args := #[s, x], argTypes := #[sl, sl] })
    {B M c k : Nat} {v : Value} {l m : List α} {A : Option Addr} (hs : a.eval s = v) (hx : a.eval x = .slice A k c) (hk : k = m.length) (hq : Owns f n ty w B v l) (hr : Reads f n w M m A) (hl : l.length + m.length ≤ 100000000) (hB : B ≤ w.heap.size)
    (h : ∀ v' w', Owns f n ty w' B v' (l ++ m) → w.grownBy w' v.ownBlock → (v'.ownBlock = v.ownBlock ∨ v'.ownBlock = some w.heap.size) → wpList Tryd.prog ops Q rest (a.put o.dst v') w') :
    wpList Tryd.prog ops Q (o :: rest) a w := by
  subst hk
  refine wpList_plain hgd fun K' hK => ?_
  obtain ⟨v', w', hrun, h2, h3, h4⟩ := run_owns K o.type (c := c) hq hr hB hl
  unfold Oper.wp execOp
  simp only [ho, resolve, invoke, builtin, Sem.run_bind, Sem.run_pure, Result.andThen_ok, List.map_toArray, List.map_cons, List.map_nil, hs, hx, hrun]
  exact hK _ _ (h v' w' h2 h3 h4)
theorem step_append_owns (K : Kind f n sl ty) {ops : Array Oper} {o : Oper} {a : Act} {R : Act → World → Prop} {Q : Exit → Act → World → Prop} {E : Prop} (w : World) (hgd : o.guard = none) (s x : Operand) (ho : o.op = .call { callee := .builtin .append, args := #[s, x], argTypes := #[sl, sl] })
    {B M c k : Nat} {v : Value} {l m : List α} {A : Option Addr} (hs : a.eval s = v) (hx : a.eval x = .slice A k c) (hk : k = m.length) (hq : Owns f n ty w B v l) (hr : Reads f n w M m A) (hl : l.length + m.length ≤ 100000000) (hB : B ≤ w.heap.size)
    (h : ∀ v' w', Owns f n ty w' B v' (l ++ m) → w.grownBy w' v.ownBlock → (v'.ownBlock = v.ownBlock ∨ v'.ownBlock = some w.heap.size) → R (a.put o.dst v') w') :
    if Region.wanted o (yielded ops a.tmps) = true then Oper.wp Tryd.prog o a w R Q else E := by
  subst hk
  have hw : Region.wanted o (yielded ops a.tmps) = true := by simp [Region.wanted, hgd]
  rw [if_pos hw]
  obtain ⟨v', w', hrun, h2, h3, h4⟩ := run_owns K o.type (c := c) hq hr hB hl
  unfold Oper.wp execOp
  simp only [ho, resolve, invoke, builtin, Sem.run_bind, Sem.run_pure, Result.andThen_ok, List.map_toArray, List.map_cons, List.map_nil, hs, hx, hrun]
  exact h v' w' h2 h3 h4
theorem below_grown {w wr w' : World} {B : Nat} {row : Option Nat} (h : Below B w wr) (hB : B ≤ wr.heap.size) (hg : wr.grownBy w' row) (hr : ∀ k, row = some k → B ≤ k) : Below B w w' :=
  ⟨hg.os.trans h.os, hg.tape.trans h.tape, hg.output.trans h.output, Nat.le_trans h.size hg.size, fun k hk => (hg.block k (by omega) (fun e => by have := hr k e.symm; omega)).trans (h.block k hk)⟩
end
end Go.Proofs.YtflpnpppljalaaaDoor.RowsC
