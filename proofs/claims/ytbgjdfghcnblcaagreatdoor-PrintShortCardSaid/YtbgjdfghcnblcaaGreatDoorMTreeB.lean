/-
  Trees and the parser's state in memory; what stays when all blocks but one are kept.
-/
import Derived.Test.YtbgjdfghcnblcaaGreatDoorMAddr
import Derived.Test.YtbgjdfghcnblcaaGreatDoorMLexF
import Derived.Test.YtbgjdfghcnblcaaGreatDoorMNumG
namespace Go.Proofs.YtbgjdfghcnblcaaGreatDoor.TreeC
set_option linter.unusedVariables false
open Go.RowKit Go.Proofs.YtbgjdfghcnblcaaGreatDoor.NumC Go.Proofs.YtbgjdfghcnblcaaGreatDoor.LexC

/-- All blocks but x are as they were; nothing but memory has turned. -/
structure Kept (x : Nat) (w w' : World) : Prop where
  os : w'.os = w.os
  tape : w'.tape = w.tape
  output : w'.output = w.output
  size : w.heap.size ≤ w'.heap.size
  block : ∀ k, k < w.heap.size → k ≠ x → w'.heap[k]? = w.heap[k]?
theorem Kept.refl (x : Nat) (w : World) : Kept x w w := ⟨rfl, rfl, rfl, Nat.le_refl _, fun _ _ _ => rfl⟩
theorem Kept.trans {x : Nat} {a b c : World} (h : Kept x a b) (g : Kept x b c) : Kept x a c :=
  ⟨g.os.trans h.os, g.tape.trans h.tape, g.output.trans h.output, Nat.le_trans h.size g.size, fun k hk hx => (g.block k (Nat.lt_of_lt_of_le hk h.size) hx).trans (h.block k hk hx)⟩
theorem Kept.of {x : Nat} {w w' : World} (h : Below w.heap.size w w') : Kept x w w' := ⟨h.os, h.tape, h.output, h.size, fun k hk _ => h.block k hk⟩
theorem Kept.drew {x : Nat} {a w : World} (h : Kept x a w) (n : Nat) : Kept x a (w.drewN n) := ⟨h.os, h.tape, h.output, h.size, h.block⟩
theorem Kept.alloc {x : Nat} {a w : World} (h : Kept x a w) (o : Obj) : Kept x a (w.alloc o) := h.trans (Kept.of ((Below.refl _ _).alloc (Nat.le_refl _) o))
theorem Kept.setCell {x : Nat} {a w : World} (h : Kept x a w) (o : Nat) (v : Value) : Kept x a (w.setCell ⟨x, o, none⟩ v) := by
  have hs : (w.setCell ⟨x, o, none⟩ v).heap.size = w.heap.size := by simp [World.setCell]
  refine ⟨h.os, h.tape, h.output, by rw [hs]; exact h.size, fun k hk hx => ?_⟩
  have : (w.setCell ⟨x, o, none⟩ v).heap[k]? = w.heap[k]? := by
    simp only [World.setCell, Array.getElem?_modify]
    rw [if_neg (fun e => hx e.symm)]
  rw [this]; exact h.block k hk hx
theorem Kept.setNew {x : Nat} {a w : World} (h : Kept x a w) (b o : Nat) (v : Value) (hb : a.heap.size ≤ b) : Kept x a (w.setCell ⟨b, o, none⟩ v) := by
  have hs : (w.setCell ⟨b, o, none⟩ v).heap.size = w.heap.size := by simp [World.setCell]
  refine ⟨h.os, h.tape, h.output, by rw [hs]; exact h.size, fun k hk hx => ?_⟩
  have : (w.setCell ⟨b, o, none⟩ v).heap[k]? = w.heap[k]? := by
    simp only [World.setCell, Array.getElem?_modify]
    rw [if_neg (by omega)]
  rw [this]; exact h.block k hk hx
theorem Kept.cell {x : Nat} {w w' : World} (h : Kept x w w') {b o : Nat} {v : Value} (hx : b ≠ x) (hv : w.cell? ⟨b, o, none⟩ = some v) : w'.cell? ⟨b, o, none⟩ = some v := by
  have hlt : b < w.heap.size := World.block_lt_of_cell? w _ hv
  rw [← hv]
  unfold World.cell?
  rw [h.block b hlt hx]

theorem Kept.then_ {x b : Nat} {w W W' : World} (h : Kept x w W) (g : Kept b W W') (hb : w.heap.size ≤ b) : Kept x w W' :=
  ⟨g.os.trans h.os, g.tape.trans h.tape, g.output.trans h.output, Nat.le_trans h.size g.size, fun k hk hx => (g.block k (Nat.lt_of_lt_of_le hk h.size) (by omega)).trans (h.block k hk hx)⟩
theorem Kept.below {x : Nat} {w W : World} (h : Kept x w W) (hx : w.heap.size ≤ x) : Below w.heap.size w W := ⟨h.os, h.tape, h.output, h.size, fun k hk => h.block k hk (by omega)⟩

/-- The tokens' row, in a block ahead of x. -/
structure TokX (w : World) (x : Nat) (v : Value) (l : List Tok) : Prop where
  form : ∃ A c, v = .slice A l.length c ∧ ∀ i (h : i < l.length), ∃ g, A = some ⟨g, 0, none⟩ ∧ g < x ∧
    w.cell? ⟨g, i * 4, none⟩ = some (.int .i64 l[i].k) ∧ w.cell? ⟨g, i * 4 + 1, none⟩ = some (.int .i64 l[i].n) ∧ w.cell? ⟨g, i * 4 + 2, none⟩ = some (.string l[i].s) ∧ w.cell? ⟨g, i * 4 + 3, none⟩ = some (.int .i64 l[i].at_)
theorem TokX.kept {w w' : World} {x y : Nat} {v : Value} {l : List Tok} (h : TokX w x v l) (hk : Kept y w w') (hy : x ≤ y) : TokX w' x v l := by
  obtain ⟨A, c, h1, h2⟩ := h.form
  exact ⟨A, c, h1, fun i hi => by
    obtain ⟨g, e, hx, f0, f1, f2, f3⟩ := h2 i hi
    have hg : g ≠ y := by omega
    exact ⟨g, e, hx, hk.cell hg f0, hk.cell hg f1, hk.cell hg f2, hk.cell hg f3⟩⟩

/-- A node's value: its fields, and its Args' slice. -/
def nodeV (f : Fld) (A : Option Addr) (n c : Nat) : Value :=
  .agg #[.int .i64 f.k, .int .i64 f.vk, .int .i64 f.vn, .string f.vs, .int .i64 f.r1, .int .i64 f.r2, .int .i64 f.r3, .int .i64 f.r4, .string f.op, .slice A n c]
/-- A row of cells of nodes from a place on reads as a forest; its blocks are among P's. -/
def RowAt (w : World) (P : Nat → Prop) : Fo → Nat → Nat → Prop
  | .nil, _, _ => True
  | .cons f kids next, g, o => (P g ∧ w.cell? ⟨g, o, none⟩ = some (.int .i64 f.k) ∧ w.cell? ⟨g, o + 1, none⟩ = some (.int .i64 f.vk) ∧ w.cell? ⟨g, o + 2, none⟩ = some (.int .i64 f.vn) ∧ w.cell? ⟨g, o + 3, none⟩ = some (.string f.vs) ∧
      w.cell? ⟨g, o + 4, none⟩ = some (.int .i64 f.r1) ∧ w.cell? ⟨g, o + 5, none⟩ = some (.int .i64 f.r2) ∧ w.cell? ⟨g, o + 6, none⟩ = some (.int .i64 f.r3) ∧ w.cell? ⟨g, o + 7, none⟩ = some (.int .i64 f.r4) ∧ w.cell? ⟨g, o + 8, none⟩ = some (.string f.op)) ∧
    (∃ A c, w.cell? ⟨g, o + 9, none⟩ = some (.slice A kids.len c) ∧ (kids = .nil ∨ ∃ g' o', A = some ⟨g', o', none⟩ ∧ RowAt w P kids g' o')) ∧ RowAt w P next g (o + 10)
theorem RowAt.keep {w w' : World} {P Q : Nat → Prop} {y : Nat} (hk : Kept y w w') (hP : ∀ g, P g → g < w.heap.size → g ≠ y ∧ Q g) : ∀ (fo : Fo) (g o : Nat), RowAt w P fo g o → RowAt w' Q fo g o := by
  intro fo
  induction fo with
  | nil => intro g o _; trivial
  | cons f kids next ih1 ih2 =>
    intro g o h
    obtain ⟨⟨hx, f0, f1, f2, f3, f4, f5, f6, f7, f8⟩, ⟨A, c, h9, hA⟩, hn⟩ := h
    obtain ⟨hy, hq⟩ := hP g hx (World.block_lt_of_cell? w _ f0)
    refine ⟨⟨hq, hk.cell hy f0, hk.cell hy f1, hk.cell hy f2, hk.cell hy f3, hk.cell hy f4, hk.cell hy f5, hk.cell hy f6, hk.cell hy f7, hk.cell hy f8⟩, ⟨A, c, hk.cell hy h9, ?_⟩, ih2 g _ hn⟩
    rcases hA with h | ⟨g', o', e, hr⟩
    · exact Or.inl h
    · exact Or.inr ⟨g', o', e, ih1 g' o' hr⟩
/-- A slice of nodes reads as a forest. -/
def KidsAt (w : World) (P : Nat → Prop) (fo : Fo) (A : Option Addr) : Prop := fo = .nil ∨ ∃ g o, A = some ⟨g, o, none⟩ ∧ RowAt w P fo g o
theorem KidsAt.keep {w w' : World} {P Q : Nat → Prop} {y : Nat} {fo : Fo} {A : Option Addr} (h : KidsAt w P fo A) (hk : Kept y w w') (hP : ∀ g, P g → g < w.heap.size → g ≠ y ∧ Q g) : KidsAt w' Q fo A := by
  rcases h with h | ⟨g, o, e, hr⟩
  · exact Or.inl h
  · exact Or.inr ⟨g, o, e, RowAt.keep hk hP _ _ _ hr⟩
/-- A value reads as a node. -/
def NodeAt (w : World) (P : Nat → Prop) (a : Nd) (v : Value) : Prop := ∃ A c, v = nodeV a.f A a.kids.len c ∧ KidsAt w P a.kids A
theorem NodeAt.keep {w w' : World} {P Q : Nat → Prop} {y : Nat} {a : Nd} {v : Value} (h : NodeAt w P a v) (hk : Kept y w w') (hP : ∀ g, P g → g < w.heap.size → g ≠ y ∧ Q g) : NodeAt w' Q a v := by
  obtain ⟨A, c, e, h⟩ := h
  exact ⟨A, c, e, h.keep hk hP⟩
theorem NodeAt.weak {w : World} {P Q : Nat → Prop} {a : Nd} {v : Value} (h : NodeAt w P a v) (hP : ∀ g, P g → g < w.heap.size → Q g) : NodeAt w Q a v :=
  h.keep (y := w.heap.size) (Kept.refl _ _) (fun g hg hl => ⟨by omega, hP g hg hl⟩)
/-- A value of the node's shape, whatever it says. -/
def NodeV (v : Value) : Prop := ∃ f A n c, v = nodeV f A n c
theorem NodeAt.some {w : World} {P : Nat → Prop} {a : Nd} {v : Value} (h : NodeAt w P a v) : NodeV v := by
  obtain ⟨A, c, e, _⟩ := h
  exact ⟨_, _, _, _, e⟩
/-- A list of values reads, one by one, as a forest. -/
def RowV (w : World) (P : Nat → Prop) : Fo → List Value → Prop
  | .nil, [] => True
  | .nil, _ :: _ => False
  | .cons _ _ _, [] => False
  | .cons f kids next, v :: vs => NodeAt w P ⟨f, kids⟩ v ∧ RowV w P next vs
theorem RowV.keep {w w' : World} {P Q : Nat → Prop} {y : Nat} (hk : Kept y w w') (hP : ∀ g, P g → g < w.heap.size → g ≠ y ∧ Q g) : ∀ (fo : Fo) (vs : List Value), RowV w P fo vs → RowV w' Q fo vs := by
  intro fo
  induction fo with
  | nil => intro vs h; cases vs with
    | nil => trivial
    | cons v vs => exact h
  | cons f kids next _ ih => intro vs h; cases vs with
    | nil => exact h
    | cons v vs => exact ⟨h.1.keep hk hP, ih vs h.2⟩
theorem RowV.len {w : World} {P : Nat → Prop} : ∀ (fo : Fo) (vs : List Value), RowV w P fo vs → vs.length = fo.len := by
  intro fo
  induction fo with
  | nil => intro vs h; cases vs with
    | nil => rfl
    | cons v vs => exact absurd h (by simp [RowV])
  | cons f kids next _ ih => intro vs h; cases vs with
    | nil => exact absurd h (by simp [RowV])
    | cons v vs => simp only [List.length_cons, Fo.len, ih vs h.2]
theorem RowV.snoc {w : World} {P : Nat → Prop} {a : Nd} {v : Value} (ha : NodeAt w P a v) : ∀ (fo : Fo) (vs : List Value), RowV w P fo vs → RowV w P (fo.app a.one) (vs ++ [v]) := by
  intro fo
  induction fo with
  | nil => intro vs h; cases vs with
    | nil => exact ⟨ha, trivial⟩
    | cons v vs => exact absurd h (by simp [RowV])
  | cons f kids next _ ih => intro vs h; cases vs with
    | nil => exact absurd h (by simp [RowV])
    | cons v vs => exact ⟨h.1, ih vs h.2⟩
/-- The cells of a row of nodes. -/
def ncells (vs : List Value) : List Value := vs.flatMap fun v => v.cells.toList
theorem ncells_snoc (vs : List Value) (v : Value) : ncells (vs ++ [v]) = ncells vs ++ v.cells.toList := by unfold ncells; rw [List.flatMap_append]; simp
theorem ncells_cons (v : Value) (vs : List Value) : ncells (v :: vs) = v.cells.toList ++ ncells vs := by unfold ncells; rw [List.flatMap_cons]
/-- From values whose cells lie one behind the other to the row. -/
theorem rowAt_of {w : World} {P : Nat → Prop} {g : Nat} (hx : P g) : ∀ (fo : Fo) (vs : List Value) (o : Nat), RowV w P fo vs → (∀ j u, (ncells vs)[j]? = some u → w.cell? ⟨g, o + j, none⟩ = some u) → RowAt w P fo g o := by
  intro fo
  induction fo with
  | nil => intro vs o _ _; trivial
  | cons f kids next _ ih =>
    intro vs o h hc
    cases vs with
    | nil => exact absurd h (by simp [RowV])
    | cons v vs =>
      obtain ⟨⟨A, c, rfl, hA⟩, hr⟩ := h
      rw [ncells_cons] at hc
      refine ⟨⟨hx, hc 0 _ rfl, hc 1 _ rfl, hc 2 _ rfl, hc 3 _ rfl, hc 4 _ rfl, hc 5 _ rfl, hc 6 _ rfl, hc 7 _ rfl, hc 8 _ rfl⟩, ⟨A, c, hc 9 _ rfl, hA⟩, ih vs (o + 10) hr fun j u hj => ?_⟩
      have := hc (10 + j) u (by
        rw [List.getElem?_append_right (by simp [nodeV, Value.cells])]
        simpa [nodeV, Value.cells] using hj)
      rwa [show o + 10 + j = o + (10 + j) by omega]
/-- A new block whose cells are those of these values. -/
theorem rowAt_block {w : World} {P : Nat → Prop} {g : Nat} (hx : P g) {fo : Fo} {vs : List Value} {cs : Array Value} (hr : RowV w P fo vs) (hb : w.heap[g]? = some (.cells cs 30 (0, 0))) (hc : cs.toList = ncells vs) : RowAt w P fo g 0 :=
  rowAt_of hx fo vs 0 hr (fun j u hj => by
    rw [Nat.zero_add, cell_of_row w g j cs _ (0, 0) hb, ← hj, ← hc, Array.getElem?_toList])

end Go.Proofs.YtbgjdfghcnblcaaGreatDoor.TreeC

/-
  Contracts of tree's reference: the parser's small methods.
-/
namespace Go.Proofs.YtbgjdfghcnblcaaGreatDoor.TreeC
set_option linter.unusedVariables false
open Go.RowKit Go.Proofs.YtbgjdfghcnblcaaGreatDoor.NumC Go.Proofs.YtbgjdfghcnblcaaGreatDoor.LexC

theorem isSign_over {l : List Tok} {k : Nat} {s : List UInt8} (h : l.length ≤ k) : isSign l k s = false := by unfold isSign; rw [List.getElem?_eq_none h]
theorem isSign_at {l : List Tok} {k : Nat} {s : List UInt8} (h : k < l.length) : isSign l k s = (decide (l[k].k = 4) && decide (l[k].s = str s)) := by unfold isSign; rw [List.getElem?_eq_getElem h]

end Go.Proofs.YtbgjdfghcnblcaaGreatDoor.TreeC

/-
  Contracts of tree's reference: bad, into, close.
-/
namespace Go.Proofs.YtbgjdfghcnblcaaGreatDoor.TreeC
set_option linter.unusedVariables false
open Go.RowKit Go.Proofs.YtbgjdfghcnblcaaGreatDoor.NumC Go.Proofs.YtbgjdfghcnblcaaGreatDoor.LexC

end Go.Proofs.YtbgjdfghcnblcaaGreatDoor.TreeC

/-
  Contracts of tree's reference: one, called, pair.
-/
namespace Go.Proofs.YtbgjdfghcnblcaaGreatDoor.TreeC
set_option linter.unusedVariables false
open Go.RowKit Go.Proofs.YtbgjdfghcnblcaaGreatDoor.NumC Go.Proofs.YtbgjdfghcnblcaaGreatDoor.LexC

/-- A row of texts. -/
def TextsAt (w : World) (v : Value) (ss : List (List UInt8)) : Prop := ∃ g c, v = .slice (some ⟨g, 0, none⟩) ss.length c ∧ ∀ i (h : i < ss.length), w.cell? ⟨g, i, none⟩ = some (.string (str ss[i]))
def oneB (o : Option (List UInt8)) : ByteArray := match o with
  | some s => str s
  | none => nob
theorem one_none {l : List Tok} {k : Nat} {ss : List (List UInt8)} (h : ∀ i (hi : i < ss.length), isSign l k ss[i] = false) : oneOf l k ss = none := by
  unfold oneOf
  rw [List.find?_eq_none]
  intro s hs
  obtain ⟨i, hi, e⟩ := List.mem_iff_getElem.1 hs
  rw [← e, h i hi]; exact Bool.false_ne_true
theorem one_some {l : List Tok} {k : Nat} {ss : List (List UInt8)} {n : Nat} (h : ∀ i (hi : i < ss.length), i < n → isSign l k ss[i] = false) (hn : n < ss.length) (hs : isSign l k ss[n] = true) : oneOf l k ss = some ss[n] := by
  unfold oneOf
  rw [List.find?_eq_some_iff_getElem]
  refine ⟨hs, n, hn, rfl, fun j hj => ?_⟩
  rw [h j (by omega) hj]; rfl

/-- A pair of nodes in a new row. -/
def pairFld (op : ByteArray) : Fld := ⟨5, 0, 0, nob, 0, 0, 0, 0, op⟩
end Go.Proofs.YtbgjdfghcnblcaaGreatDoor.TreeC

/-
  What a part of the grammar answers in memory; contract of tree's reference: unary.
-/
namespace Go.Proofs.YtbgjdfghcnblcaaGreatDoor.TreeC
set_option linter.unusedVariables false
open Go.RowKit Go.Proofs.YtbgjdfghcnblcaaGreatDoor.NumC Go.Proofs.YtbgjdfghcnblcaaGreatDoor.LexC

/-- A block that holds a zero node. -/
structure NBox (w : World) (b : Nat) : Prop where
  at_ : w.heap[b]? = some (.cells #[.int .i64 0, .int .i64 0, .int .i64 0, .string { data := #[] }, .int .i64 0, .int .i64 0, .int .i64 0, .int .i64 0, .string { data := #[] }, .slice none 0 0] 30 (0, 0))
theorem NBox.new (w : World) : NBox (w.alloc (.cells #[.int .i64 0, .int .i64 0, .int .i64 0, .string { data := #[] }, .int .i64 0, .int .i64 0, .int .i64 0, .int .i64 0, .string { data := #[] }, .slice none 0 0] 30)) w.heap.size := ⟨heap_alloc_new _ _⟩
theorem NBox.lt {w : World} {b : Nat} (h : NBox w b) : b < w.heap.size := (Array.getElem?_eq_some_iff.1 h.at_).1
theorem NBox.kept {w w' : World} {b y : Nat} (h : NBox w b) (hk : Kept y w w') (hb : b ≠ y) : NBox w' b := ⟨(hk.block b h.lt hb).trans h.at_⟩
theorem NBox.cells {w : World} {b : Nat} (h : NBox w b) :
    w.cell? ⟨b, 0, none⟩ = some (.int .i64 0) ∧ w.cell? ⟨b, 1, none⟩ = some (.int .i64 0) ∧ w.cell? ⟨b, 2, none⟩ = some (.int .i64 0) ∧ w.cell? ⟨b, 3, none⟩ = some (.string { data := #[] }) ∧ w.cell? ⟨b, 4, none⟩ = some (.int .i64 0) ∧
    w.cell? ⟨b, 5, none⟩ = some (.int .i64 0) ∧ w.cell? ⟨b, 6, none⟩ = some (.int .i64 0) ∧ w.cell? ⟨b, 7, none⟩ = some (.int .i64 0) ∧ w.cell? ⟨b, 8, none⟩ = some (.string { data := #[] }) ∧ w.cell? ⟨b, 9, none⟩ = some (.slice none 0 0) ∧
    w.frozen? ⟨b, 0, none⟩ = false ∧ w.frozen? ⟨b, 1, none⟩ = false ∧ w.frozen? ⟨b, 2, none⟩ = false ∧ w.frozen? ⟨b, 3, none⟩ = false ∧ w.frozen? ⟨b, 4, none⟩ = false ∧
    w.frozen? ⟨b, 5, none⟩ = false ∧ w.frozen? ⟨b, 6, none⟩ = false ∧ w.frozen? ⟨b, 7, none⟩ = false ∧ w.frozen? ⟨b, 8, none⟩ = false ∧ w.frozen? ⟨b, 9, none⟩ = false := by
  have h1 := h.at_
  refine ⟨?_, ?_, ?_, ?_, ?_, ?_, ?_, ?_, ?_, ?_, ?_, ?_, ?_, ?_, ?_, ?_, ?_, ?_, ?_, ?_⟩ <;> simp [World.cell?, World.frozen?, h1]
/-- A block that holds a node. -/
structure NLoc (w : World) (b : Nat) (f : Fld) (A : Option Addr) (n c : Nat) : Prop where
  at_ : w.heap[b]? = some (.cells #[.int .i64 f.k, .int .i64 f.vk, .int .i64 f.vn, .string f.vs, .int .i64 f.r1, .int .i64 f.r2, .int .i64 f.r3, .int .i64 f.r4, .string f.op, .slice A n c] 30 (0, 0))
theorem NLoc.lt {w : World} {b n c : Nat} {f : Fld} {A : Option Addr} (h : NLoc w b f A n c) : b < w.heap.size := (Array.getElem?_eq_some_iff.1 h.at_).1
theorem NLoc.kept {w w' : World} {b y n c : Nat} {f : Fld} {A : Option Addr} (h : NLoc w b f A n c) (hk : Kept y w w') (hb : b ≠ y) : NLoc w' b f A n c := ⟨(hk.block b h.lt hb).trans h.at_⟩
theorem NLoc.cells {w : World} {b n c : Nat} {f : Fld} {A : Option Addr} (h : NLoc w b f A n c) :
    w.cell? ⟨b, 0, none⟩ = some (.int .i64 f.k) ∧ w.cell? ⟨b, 1, none⟩ = some (.int .i64 f.vk) ∧ w.cell? ⟨b, 2, none⟩ = some (.int .i64 f.vn) ∧ w.cell? ⟨b, 3, none⟩ = some (.string f.vs) ∧ w.cell? ⟨b, 4, none⟩ = some (.int .i64 f.r1) ∧
    w.cell? ⟨b, 5, none⟩ = some (.int .i64 f.r2) ∧ w.cell? ⟨b, 6, none⟩ = some (.int .i64 f.r3) ∧ w.cell? ⟨b, 7, none⟩ = some (.int .i64 f.r4) ∧ w.cell? ⟨b, 8, none⟩ = some (.string f.op) ∧ w.cell? ⟨b, 9, none⟩ = some (.slice A n c) ∧
    w.frozen? ⟨b, 0, none⟩ = false ∧ w.frozen? ⟨b, 1, none⟩ = false ∧ w.frozen? ⟨b, 2, none⟩ = false ∧ w.frozen? ⟨b, 3, none⟩ = false ∧ w.frozen? ⟨b, 4, none⟩ = false ∧
    w.frozen? ⟨b, 5, none⟩ = false ∧ w.frozen? ⟨b, 6, none⟩ = false ∧ w.frozen? ⟨b, 7, none⟩ = false ∧ w.frozen? ⟨b, 8, none⟩ = false ∧ w.frozen? ⟨b, 9, none⟩ = false := by
  have h1 := h.at_
  refine ⟨?_, ?_, ?_, ?_, ?_, ?_, ?_, ?_, ?_, ?_, ?_, ?_, ?_, ?_, ?_, ?_, ?_, ?_, ?_, ?_⟩ <;> simp [World.cell?, World.frozen?, h1]
theorem nodeV_any (f : Fld) (A : Option Addr) (n c : Nat) : NodeV (nodeV f A n c) := ⟨f, A, n, c, rfl⟩
end Go.Proofs.YtbgjdfghcnblcaaGreatDoor.TreeC

/-
  Contract of tree's reference: power.
-/
namespace Go.Proofs.YtbgjdfghcnblcaaGreatDoor.TreeC
set_option linter.unusedVariables false
open Go.RowKit Go.Proofs.YtbgjdfghcnblcaaGreatDoor.NumC Go.Proofs.YtbgjdfghcnblcaaGreatDoor.LexC

/-- A pair's answer, read. -/
theorem pair_row {w : World} {Q : Nat → Prop} {f g : Fld} {A B : Option Addr} {n m c d b : Nat} {ka kb : Fo} {op : List UInt8} (hb : Q b) (h : w.heap[b]? = some (.cells ((nodeV f A n c).cells ++ (nodeV g B m d).cells) 30 (0, 0)))
    (hn : ka.len = n) (hm : kb.len = m) (hA : KidsAt w Q ka A) (hB : KidsAt w Q kb B) : NodeAt w Q (pairN op ⟨f, ka⟩ ⟨g, kb⟩) (nodeV (pairFld (str op)) (some ⟨b, 0, none⟩) 2 2) :=
  ⟨some ⟨b, 0, none⟩, 2, rfl, Or.inr ⟨b, 0, rfl, rowAt_block hb (vs := [nodeV f A n c, nodeV g B m d]) ⟨⟨A, c, by rw [hn], hA⟩, ⟨⟨B, d, by rw [hm], hB⟩, trivial⟩⟩ h rfl⟩⟩

end Go.Proofs.YtbgjdfghcnblcaaGreatDoor.TreeC
