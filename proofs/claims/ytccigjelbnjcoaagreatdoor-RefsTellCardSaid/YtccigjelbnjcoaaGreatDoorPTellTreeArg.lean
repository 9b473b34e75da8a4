/-
  An argument that is a tree: its cells, and its Args as a forest in memory.
-/
import Derived.Test.YtccigjelbnjcoaaGreatDoorPTellTreeK1
import Derived.Test.YtccigjelbnjcoaaGreatDoorPTellNumO
import Derived.Test.YtccigjelbnjcoaaGreatDoorPTellTreeP0
namespace Go.Proofs.YtccigjelbnjcoaaGreatDoor.TreeC
set_option linter.unusedVariables false
open Go.ChangeShapes Go.WideShapes Go.ChangeAt Go.RowKit Go.Proofs.YtccigjelbnjcoaaGreatDoor.NumC
theorem addr_add2 (g o i j : Nat) : ((⟨g, o, none⟩ : Addr).add i).add j = ⟨g, o + i + j, none⟩ := by rw [addr_add, addr_add]
section
variable {H : Type} {enc : TypeId × Value → H} {w : World} {base : Nat} {spare : Nat → Bool} {held : Bool}
end
end Go.Proofs.YtccigjelbnjcoaaGreatDoor.TreeC
namespace Go.Proofs.YtccigjelbnjcoaaGreatDoor.RefsC
set_option linter.unusedVariables false
open Go.ChangeShapes Go.WideShapes Go.ChangeAt Go.RowKit Go.Proofs.YtccigjelbnjcoaaGreatDoor.NumC Go.Proofs.YtccigjelbnjcoaaGreatDoor.TreeC
section
variable {H : Type} {enc : TypeId × Value → H} {w : World} {base : Nat} {spare : Nat → Bool} {held : Bool} {fuel : Nat} {r : Reach} {b0 : Nat} {v : Value} {d : DataW H} {p : List MemPlace}
theorem addr_cells {cs : List Value} {x : DataW H × List MemPlace} (h : DataW.trod enc Tryz.prog w base spare held fuel 25 cs = some x) : ∃ a b, cs[0]? = some (.int .i64 a) ∧ cs[1]? = some (.int .i64 b) := by
  obtain ⟨y0, n0, h0⟩ := struct_sub (e := 3) (o := 0) (c := 1) (i := 0) Tryz.underlying25 h ⟨_, rfl, rfl, rfl⟩ (by kernel_rfl)
  obtain ⟨y1, n1, h1⟩ := struct_sub (e := 3) (o := 1) (c := 1) (i := 1) Tryz.underlying25 h ⟨_, rfl, rfl, rfl⟩ (by kernel_rfl)
  obtain ⟨a, ha, -⟩ := cell_int Tryz.underlying3 h0
  obtain ⟨b, hb, -⟩ := cell_int Tryz.underlying3 h1
  exact ⟨a, b, ha, hb⟩
theorem rect_cells {cs : List Value} {x : DataW H × List MemPlace} (h : DataW.trod enc Tryz.prog w base spare held fuel 27 cs = some x) :
    ∃ y : Rc, cs[0]? = some (.int .i64 y.a) ∧ cs[1]? = some (.int .i64 y.b) ∧ cs[2]? = some (.int .i64 y.c) ∧ cs[3]? = some (.int .i64 y.d) := by
  obtain ⟨y0, n0, h0⟩ := struct_sub (e := 25) (o := 0) (c := 2) (i := 0) Tryz.underlying27 h ⟨_, rfl, rfl, rfl⟩ (by kernel_rfl)
  obtain ⟨y1, n1, h1⟩ := struct_sub (e := 25) (o := 2) (c := 2) (i := 1) Tryz.underlying27 h ⟨_, rfl, rfl, rfl⟩ (by kernel_rfl)
  obtain ⟨a, b, ha, hb⟩ := addr_cells h0
  obtain ⟨c, e, hc, he⟩ := addr_cells h1
  exact ⟨⟨a, b, c, e⟩, sub_cell ha, sub_cell hb, sub_cell hc, sub_cell he⟩
set_option maxRecDepth 100000 in
theorem open_addr (hv : Value.okWide Tryz.prog w r b0 25 v) (h : DataW.Trod enc Tryz.prog w base spare held 25 v d p) : ∃ a b, v = .agg #[.int .i64 a, .int .i64 b] := by
  obtain ⟨cs, y, m, rfl, hs, hf⟩ := open_struct Tryz.underlying25 (show Tryz.prog.cellsOf 25 = 2 by kernel_rfl) hv h
  obtain ⟨c0, c1, rfl⟩ := Joins.array2 hs
  obtain ⟨a, b, h0, h1⟩ := addr_cells hf
  simp at h0 h1
  subst h0 h1
  exact ⟨a, b, rfl⟩
theorem row_of {g o : Nat} : ∀ n, (∀ i, i < n → ∃ y : Rc, w.cell? ⟨g, o + i * 4, none⟩ = some (.int .i64 y.a) ∧ w.cell? ⟨g, o + i * 4 + 1, none⟩ = some (.int .i64 y.b) ∧ w.cell? ⟨g, o + i * 4 + 2, none⟩ = some (.int .i64 y.c) ∧ w.cell? ⟨g, o + i * 4 + 3, none⟩ = some (.int .i64 y.d)) →
    ∃ l : List Rc, l.length = n ∧ ∀ i x, l[i]? = some x → w.cell? ⟨g, o + i * 4, none⟩ = some (.int .i64 x.a) ∧ w.cell? ⟨g, o + i * 4 + 1, none⟩ = some (.int .i64 x.b) ∧ w.cell? ⟨g, o + i * 4 + 2, none⟩ = some (.int .i64 x.c) ∧ w.cell? ⟨g, o + i * 4 + 3, none⟩ = some (.int .i64 x.d) := by
  intro n
  induction n with
  | zero => intro _; exact ⟨[], rfl, fun i x h => by cases h⟩
  | succ n ih =>
    intro h
    obtain ⟨l, hl, hx⟩ := ih (fun i hi => h i (by omega))
    obtain ⟨y, hy⟩ := h n (by omega)
    refine ⟨l ++ [y], by rw [List.length_append, hl]; rfl, fun i x hi => ?_⟩
    by_cases e : i < l.length
    · rw [List.getElem?_append_left e] at hi; exact hx i x hi
    · rw [List.getElem?_append_right (by omega)] at hi
      have : i - l.length = 0 := by
        cases hk : i - l.length with
        | zero => rfl
        | succ k => rw [hk] at hi; cases hi
      rw [this] at hi
      cases hi
      obtain rfl : i = n := by omega
      exact hy
set_option maxRecDepth 100000 in
theorem open_rects (hv : Value.okWide Tryz.prog w r b0 34 v) (h : DataW.Trod enc Tryz.prog w base spare held 34 v d p) : ∃ (l : List Rc) (A : Option Addr) (c : Nat), v = .slice A l.length c ∧ RAt w w.heap.size l A := by
  obtain ⟨A, n, c, rfl⟩ := okWide_slice Tryz.underlying34 hv
  obtain ⟨fuel, hf⟩ := h
  have hC : Tryz.prog.cellsOf 27 = 4 := by kernel_rfl
  rcases DataW.trod_slice Tryz.underlying34 hf with ⟨e9, -⟩ | ⟨a, len, cap, elems, rest, n', rfl, e9, -, hb, hle, hcap, hel, hall, -, -⟩
  · injection e9 with e9
    injection e9 with e1 e2 e3
    subst e1 e2 e3
    exact ⟨[], none, 0, rfl, Or.inl rfl⟩
  · injection e9 with e9
    injection e9 with e1 e2 e3
    subst e1 e2 e3
    rw [hC] at hall
    cases n with
    | zero => exact ⟨[], some a, c, rfl, Or.inl rfl⟩
    | succ len =>
      have key : ∀ i, i < len + 1 → ∃ y : Rc, w.cell? ((a.add (i * 4)).add 0) = some (.int .i64 y.a) ∧ w.cell? ((a.add (i * 4)).add 1) = some (.int .i64 y.b) ∧ w.cell? ((a.add (i * 4)).add 2) = some (.int .i64 y.c) ∧ w.cell? ((a.add (i * 4)).add 3) = some (.int .i64 y.d) := fun i hi => by
        have h1 := hall i hi
        rw [List.getElem?_eq_getElem (by omega)] at h1
        obtain ⟨cs', h2, h3⟩ := Option.bind_eq_some_iff.1 h1
        obtain ⟨y, y0, y1, y2, y3⟩ := rect_cells h3
        have h4 := (World.cells?_some h2).2.2
        exact ⟨y, (h4 0 (by omega)).trans y0, (h4 1 (by omega)).trans y1, (h4 2 (by omega)).trans y2, (h4 3 (by omega)).trans y3⟩
      have hspot : a = ⟨a.block, a.off, none⟩ := by
        obtain ⟨y, h4, -⟩ := key 0 (by omega)
        rw [Nat.zero_mul] at h4
        have h4 : w.cell? a = some (.int .i64 y.a) := h4
        obtain ⟨b, o, sp⟩ := a
        cases sp with
        | none => rfl
        | some s => exact absurd h4 (by unfold World.cell?; split <;> simp)
      rw [hspot] at key
      obtain ⟨l, hl, hx⟩ := row_of (w := w) (g := a.block) (o := a.off) (len + 1) (fun i hi => by
        obtain ⟨y, y0, y1, y2, y3⟩ := key i hi
        rw [addr_add2] at y0 y1 y2 y3
        exact ⟨y, y0, y1, y2, y3⟩)
      refine ⟨l, some a, c, by rw [hl], Or.inr ⟨a.block, a.off, by rw [← hspot], ?_, hx⟩⟩
      obtain ⟨y, hy⟩ := nth_some l 0 (by omega)
      exact World.block_lt_of_cell? w ⟨a.block, a.off + 0 * 4, none⟩ (hx 0 y hy).1
end
end Go.Proofs.YtccigjelbnjcoaaGreatDoor.RefsC
