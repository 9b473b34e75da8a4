/-
  Arguments that are rows of records of any kind: a row's reading out of its elements' readings.
-/
import Derived.Test.YtakamedgdiffbaaGreatDoorPPlaysRowsA
import Derived.Test.YtakamedgdiffbaaGreatDoorPPlaysNumO
namespace Go.Proofs.YtakamedgdiffbaaGreatDoor.RowsC
set_option linter.unusedVariables false
open Go.ChangeShapes Go.WideShapes Go.ChangeAt Go.RowKit Go.Proofs.YtakamedgdiffbaaGreatDoor.NumC
section
variable {H : Type} {enc : TypeId × Value → H} {w : World} {base : Nat} {spare : Nat → Bool} {held : Bool} {α : Type} {f : α → List Value} {n : Nat} {sl ty : TypeId} {Q : α → Prop}
theorem row_list {g o : Nat} : ∀ m, (∀ i, i < m → ∃ y, Q y ∧ ∀ j u, (f y)[j]? = some u → w.cell? ⟨g, o + i * n + j, none⟩ = some u) →
    ∃ l : List α, l.length = m ∧ (∀ y, y ∈ l → Q y) ∧ ∀ i x, l[i]? = some x → ∀ j u, (f x)[j]? = some u → w.cell? ⟨g, o + i * n + j, none⟩ = some u := by
  intro m
  induction m with
  | zero => intro _; exact ⟨[], rfl, fun y h => (List.not_mem_nil h).elim, fun i x h => by cases h⟩
  | succ m ih =>
    intro h
    obtain ⟨l, hl, hq, hx⟩ := ih (fun i hi => h i (by omega))
    obtain ⟨y, hy, hc⟩ := h m (by omega)
    refine ⟨l ++ [y], by rw [List.length_append, hl]; rfl, fun z hz => ?_, fun i x hi => ?_⟩
    · rcases List.mem_append.1 hz with e | e
      · exact hq z e
      · rw [List.mem_singleton.1 e]; exact hy
    · by_cases e : i < l.length
      · rw [List.getElem?_append_left e] at hi; exact hx i x hi
      · rw [List.getElem?_append_right (by omega)] at hi
        have : i - l.length = 0 := by
          cases hk : i - l.length with
          | zero => rfl
          | succ k => rw [hk] at hi; cases hi
        rw [this] at hi
        cases hi
        obtain rfl : i = m := by omega
        exact hc
theorem cell_spot {a : Addr} {v : Value} (h : w.cell? a = some v) : a = ⟨a.block, a.off, none⟩ := by
  obtain ⟨b, o, sp⟩ := a
  cases sp with
  | none => rfl
  | some s => exact absurd h (by unfold World.cell?; split <;> simp)
theorem addr_add_at (a : Addr) (g o i : Nat) (h : a = ⟨g, o, none⟩) (k j : Nat) : (a.add (i * k)).add j = ⟨g, o + i * k + j, none⟩ := by
  subst h
  rw [addr_add, addr_add]
theorem trod_row (K : RowK f n) (hU : Tryz.prog.underlying sl = some (.slice ty)) (hC : Tryz.prog.cellsOf ty = n)
    (he : ∀ (fuel : Nat) (cs : List Value) (x : DataW H × List MemPlace), DataW.trod enc Tryz.prog w base spare held fuel ty cs = some x → ∃ y : α, Q y ∧ ∀ (j : Nat) (u : Value), (f y)[j]? = some u → cs[j]? = some u)
    {fuel : Nat} {cs : List Value} {x : DataW H × List MemPlace} (h : DataW.trod enc Tryz.prog w base spare held fuel sl cs = some x) :
    ∃ (l : List α) (A : Option Addr) (c : Nat), cs = [.slice A l.length c] ∧ Reads f n w w.heap.size l A ∧ (∀ y, y ∈ l → Q y) ∧ l.length ≤ 9223372036854775807 := by
  rcases DataW.trod_slice hU h with ⟨e9, -⟩ | ⟨a, len, cap, elems, rest, n', rfl, e9, -, hb, hle, hcap, hel, hall, -, -⟩
  · exact ⟨[], none, 0, e9, Or.inl rfl, fun y hy => (List.not_mem_nil hy).elim, Nat.zero_le _⟩
  · rw [hC] at hall
    cases len with
    | zero => exact ⟨[], some a, cap, e9, Or.inl rfl, fun y hy => (List.not_mem_nil hy).elim, Nat.zero_le _⟩
    | succ len =>
      have key : ∀ i, i < len + 1 → ∃ y, Q y ∧ ∀ j u, (f y)[j]? = some u → w.cell? ((a.add (i * n)).add j) = some u := fun i hi => by
        have h1 := hall i hi
        rw [List.getElem?_eq_getElem (by omega)] at h1
        obtain ⟨cs', h2, h3⟩ := Option.bind_eq_some_iff.1 h1
        obtain ⟨y, hq, hy⟩ := he _ _ _ h3
        have h4 := (World.cells?_some h2).2.2
        exact ⟨y, hq, fun j u hj => (h4 j (by rw [← K.len y]; exact (List.getElem?_eq_some_iff.1 hj).1)).trans (hy j u hj)⟩
      have hspot : a = ⟨a.block, a.off, none⟩ := by
        obtain ⟨y, -, h4⟩ := key 0 (by omega)
        have h0 : 0 < (f y).length := by rw [K.len]; exact K.pos
        have h5 := h4 0 _ (List.getElem?_eq_getElem h0)
        rw [Nat.zero_mul] at h5
        exact cell_spot (show w.cell? a = some _ from h5)
      obtain ⟨l, hl, hq, hx⟩ := row_list (w := w) (f := f) (n := n) (Q := Q) (g := a.block) (o := a.off) (len + 1) (fun i hi => by
        obtain ⟨y, hq, hy⟩ := key i hi
        exact ⟨y, hq, fun j u hj => by rw [← addr_add_at a _ _ i hspot n j]; exact hy j u hj⟩)
      refine ⟨l, some a, cap, by rw [e9, hl], Or.inr ⟨a.block, a.off, by rw [← hspot], ?_, hx⟩, hq, by rw [hl]; exact Nat.le_trans hle (Nat.le_trans hcap (by unfold maxLen; decide))⟩
      obtain ⟨y, -, hy⟩ := key 0 (by omega)
      have h0 : 0 < (f y).length := by rw [K.len]; exact K.pos
      have h5 := hy 0 _ (List.getElem?_eq_getElem h0)
      rw [addr_add_at a _ _ 0 hspot] at h5
      exact World.block_lt_of_cell? w ⟨a.block, a.off + 0 * n + 0, none⟩ h5
set_option maxRecDepth 100000 in
theorem open_row (K : RowK f n) (hU : Tryz.prog.underlying sl = some (.slice ty)) (hC : Tryz.prog.cellsOf ty = n)
    (he : ∀ (fuel : Nat) (cs : List Value) (x : DataW H × List MemPlace), DataW.trod enc Tryz.prog w base spare held fuel ty cs = some x → ∃ y : α, Q y ∧ ∀ (j : Nat) (u : Value), (f y)[j]? = some u → cs[j]? = some u)
    {r : Reach} {b0 : Nat} {v : Value} {d : DataW H} {p : List MemPlace} (hv : Value.okWide Tryz.prog w r b0 sl v) (h : DataW.Trod enc Tryz.prog w base spare held sl v d p) :
    ∃ (l : List α) (A : Option Addr) (c : Nat), v = .slice A l.length c ∧ Reads f n w w.heap.size l A ∧ (∀ y, y ∈ l → Q y) ∧ l.length ≤ 9223372036854775807 := by
  obtain ⟨A, m, c, rfl⟩ := okWide_slice hU hv
  obtain ⟨fuel, hf⟩ := h
  obtain ⟨l, A', c', e, hr, hq, hl⟩ := trod_row K hU hC he hf
  injection (show [Value.slice A m c] = [.slice A' l.length c'] from e) with e
  exact ⟨l, A', c', e, hr, hq, hl⟩
theorem beside {α β : Type} {R : α → β → Prop} : ∀ l : List α, (∀ y, y ∈ l → ∃ z, R y z) → ∃ m : List β, m.length = l.length ∧ ∀ (i : Nat) y z, l[i]? = some y → m[i]? = some z → R y z := by
  intro l
  induction l with
  | nil => intro _; exact ⟨[], rfl, fun i y z h => by cases h⟩
  | cons a l ih =>
    intro h
    obtain ⟨m, hm, hx⟩ := ih (fun y hy => h y (List.mem_cons_of_mem _ hy))
    obtain ⟨b, hb⟩ := h a List.mem_cons_self
    refine ⟨b :: m, by simp [hm], fun i y z hy hz => ?_⟩
    cases i with
    | zero => cases hy; cases hz; exact hb
    | succ i => exact hx i y z (by simpa using hy) (by simpa using hz)
end
end Go.Proofs.YtakamedgdiffbaaGreatDoor.RowsC
