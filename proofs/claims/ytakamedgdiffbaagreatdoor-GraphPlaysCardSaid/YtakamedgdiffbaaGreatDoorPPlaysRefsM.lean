/-
  What formulas refer to, as plain functions: rectangles in order, each once; what a tree names; hits, meets; how many cells are in one or more.
-/
import Derived.Test.YtakamedgdiffbaaGreatDoorPPlaysAddrA
import Derived.Test.YtakamedgdiffbaaGreatDoorPPlaysTreeA
import Derived.Test.YtakamedgdiffbaaGreatDoorPPlaysNumG
import Derived.Test.YtakamedgdiffbaaGreatDoorPPlaysNumN
import Derived.Test.YtakamedgdiffbaaGreatDoorProg
import Derived.Test.YtakamedgdiffbaaGreatDoorPPlaysNumM
import Derived.Test.YtakamedgdiffbaaGreatDoorPPlaysNumR
import Derived.WalkKit
import Derived.WalkSpells
import Derived.WalkLawsBesides
import Derived.Deep.QuietTactic
import Derived.BigQuiet
import Derived.Lib.Hide
import Derived.Shelf.Lay
import Derived.Deep.DeepFit
import Derived.WalkSmall
import Derived.Lib.AppendIntMem
import Derived.Lib.AtoiErrMem
import Derived.Maps.AppendAt
import Derived.OwnWalk
import Derived.Deep.AppendLies
import Derived.Laws.OwnMore
namespace Go.Proofs.YtakamedgdiffbaaGreatDoor.RefsC
set_option linter.unusedVariables false
open Go.Proofs.YtakamedgdiffbaaGreatDoor.AddrC (Cell cellB beforeB FineP fineB MeetP meetB HasP hasB)
open Go.Proofs.YtakamedgdiffbaaGreatDoor.TreeC
structure Rc where
  a : Int
  b : Int
  c : Int
  d : Int
  deriving DecidableEq
def aheadB (x y : Rc) : Bool := if x.a = y.a ∧ x.b = y.b then beforeB x.c x.d y.c y.d else beforeB x.a x.b y.a y.b
theorem ahead_iff (x y : Rc) : aheadB x y = true ↔ (x.a < y.a ∨ x.a = y.a ∧ (x.b < y.b ∨ x.b = y.b ∧ (x.c < y.c ∨ x.c = y.c ∧ x.d < y.d))) := by
  unfold aheadB beforeB
  split <;> rename_i h <;> rw [decide_eq_true_eq] <;> omega
theorem ahead_irrefl (x : Rc) : aheadB x x = false := by
  cases h : aheadB x x
  · rfl
  · rw [ahead_iff] at h; omega
theorem ahead_trans {x y z : Rc} (h : aheadB x y = true) (g : aheadB y z = true) : aheadB x z = true := by
  rw [ahead_iff] at h g ⊢; omega
theorem ahead_asymm {x y : Rc} (h : aheadB x y = true) : aheadB y x = false := by
  cases g : aheadB y x
  · rfl
  · rw [ahead_iff] at h g; omega
theorem ahead_total {x y : Rc} (h : aheadB x y = false) (g : aheadB y x = false) : x = y := by
  have h1 : ¬ _ := fun e => absurd ((ahead_iff x y).2 e) (by rw [h]; decide)
  have h2 : ¬ _ := fun e => absurd ((ahead_iff y x).2 e) (by rw [g]; decide)
  obtain ⟨a, b, c, d⟩ := x
  obtain ⟨a', b', c', d'⟩ := y
  simp only at h1 h2
  have e1 : a = a' := by omega
  have e2 : b = b' := by omega
  have e3 : c = c' := by omega
  have e4 : d = d' := by omega
  rw [e1, e2, e3, e4]
def putL : List Rc → Rc → List Rc
  | [], r => [r]
  | x :: l, r => if aheadB x r then x :: putL l r else if x = r then x :: l else r :: x :: l
theorem put_mem (l : List Rc) (r x : Rc) : x ∈ putL l r ↔ x ∈ l ∨ x = r := by
  induction l with
  | nil => simp [putL]
  | cons y l ih =>
    unfold putL
    split
    · rw [List.mem_cons, List.mem_cons, ih]; exact or_assoc.symm
    · split
      · rename_i e
        subst e
        constructor
        · exact Or.inl
        · rintro (h | h)
          · exact h
          · exact List.mem_cons.2 (Or.inl h)
      · rw [List.mem_cons, List.mem_cons]; exact or_comm
def Srt (l : List Rc) : Prop := l.Pairwise (fun x y => aheadB x y = true)
theorem put_srt {l : List Rc} (h : Srt l) (r : Rc) : Srt (putL l r) := by
  induction l with
  | nil => exact List.pairwise_singleton _ _
  | cons y l ih =>
    obtain ⟨h1, h2⟩ := List.pairwise_cons.1 h
    unfold putL
    split
    · rename_i hy
      refine List.pairwise_cons.2 ⟨fun x hx => ?_, ih h2⟩
      rcases (put_mem l r x).1 hx with hx | hx
      · exact h1 x hx
      · rw [hx]; exact hy
    · rename_i hy
      split
      · exact h
      · rename_i ne
        have hr : aheadB r y = true := by
          cases e : aheadB r y
          · exact absurd (ahead_total (by simpa using hy) e) ne
          · rfl
        refine List.pairwise_cons.2 ⟨fun x hx => ?_, h⟩
        rcases List.mem_cons.1 hx with hx | hx
        · rw [hx]; exact hr
        · exact ahead_trans hr (h1 x hx)
theorem srt_ext : ∀ {l m : List Rc}, Srt l → Srt m → (∀ x, x ∈ l ↔ x ∈ m) → l = m
  | [], [], _, _, _ => rfl
  | [], y :: m, _, _, h => absurd ((h y).2 (List.mem_cons_self ..)) (by simp)
  | x :: l, [], _, _, h => absurd ((h x).1 (List.mem_cons_self ..)) (by simp)
  | x :: l, y :: m, hl, hm, h => by
    obtain ⟨l1, l2⟩ := List.pairwise_cons.1 hl
    obtain ⟨m1, m2⟩ := List.pairwise_cons.1 hm
    have e : x = y := by
      rcases List.mem_cons.1 ((h x).1 (List.mem_cons_self ..)) with e | hx
      · exact e
      · rcases List.mem_cons.1 ((h y).2 (List.mem_cons_self ..)) with e | hy
        · exact e.symm
        · have := ahead_asymm (l1 y hy)
          rw [m1 x hx] at this; cases this
    subst e
    rw [srt_ext l2 m2 (fun z => ?_)]
    have hz := h z
    rw [List.mem_cons, List.mem_cons] at hz
    constructor
    · intro h1
      rcases hz.1 (Or.inr h1) with e | h2
      · subst e; have := l1 _ h1; rw [ahead_irrefl] at this; cases this
      · exact h2
    · intro h1
      rcases hz.2 (Or.inr h1) with e | h2
      · subst e; have := m1 _ h1; rw [ahead_irrefl] at this; cases this
      · exact h2
def placeL : List Rc → Rc → Nat
  | [], _ => 0
  | x :: l, r => if aheadB x r then placeL l r + 1 else 0
theorem place_le (l : List Rc) (r : Rc) : placeL l r ≤ l.length := by
  induction l with
  | nil => exact Nat.le_refl 0
  | cons x l ih => unfold placeL; split <;> simp <;> omega
theorem put_at (l : List Rc) (r : Rc) : putL l r = if l[placeL l r]? = some r then l else l.take (placeL l r) ++ r :: l.drop (placeL l r) := by
  induction l with
  | nil => rfl
  | cons x l ih =>
    unfold putL placeL
    by_cases h : aheadB x r = true
    · rw [if_pos h, if_pos h, ih]
      simp only [List.getElem?_cons_succ, List.take_succ_cons, List.drop_succ_cons, List.cons_append]
      split <;> rfl
    · rw [if_neg h, if_neg h]
      simp only [List.getElem?_cons_zero, Option.some.injEq, List.take_zero, List.drop_zero, List.nil_append]
theorem place_ahead (l : List Rc) (r : Rc) (i : Nat) (hi : i < placeL l r) : ∃ x, l[i]? = some x ∧ aheadB x r = true := by
  induction l generalizing i with
  | nil => exact absurd hi (Nat.not_lt_zero _)
  | cons x l ih =>
    unfold placeL at hi
    split at hi
    · rename_i h
      cases i with
      | zero => exact ⟨x, rfl, h⟩
      | succ i => exact ih i (by omega)
    · exact absurd hi (Nat.not_lt_zero _)
theorem place_stop (l : List Rc) (r x : Rc) (h : l[placeL l r]? = some x) : aheadB x r = false := by
  induction l with
  | nil => cases h
  | cons y l ih =>
    unfold placeL at h
    split at h
    · exact ih h
    · rename_i hy
      rw [List.getElem?_cons_zero] at h
      rw [← Option.some.inj h]
      simpa using hy
theorem place_of {l : List Rc} {r : Rc} {k : Nat} (h : ∀ i, i < k → ∃ x, l[i]? = some x ∧ aheadB x r = true) (hk : k = l.length ∨ ∃ x, l[k]? = some x ∧ aheadB x r = false) : placeL l r = k := by
  rcases Nat.lt_trichotomy (placeL l r) k with hlt | he | hgt
  · obtain ⟨x, hx, ha⟩ := h _ hlt
    rw [place_stop l r x hx] at ha; cases ha
  · exact he
  · rcases hk with hk | ⟨x, hx, ha⟩
    · have := place_le l r; omega
    · obtain ⟨y, hy, hb⟩ := place_ahead l r k hgt
      rw [hx] at hy
      rw [← Option.some.inj hy, ha] at hb; cases hb
def putsL (l : List Rc) (m : List Rc) : List Rc := m.foldl putL l
theorem puts_mem (m l : List Rc) (x : Rc) : x ∈ putsL l m ↔ x ∈ l ∨ x ∈ m := by
  induction m generalizing l with
  | nil => simp [putsL]
  | cons y m ih =>
    show x ∈ putsL (putL l y) m ↔ _
    rw [ih, put_mem, List.mem_cons, or_assoc]
theorem puts_srt (m : List Rc) {l : List Rc} (h : Srt l) : Srt (putsL l m) := by
  induction m generalizing l with
  | nil => exact h
  | cons y m ih => exact ih (put_srt h y)
theorem srt_nil : Srt [] := List.Pairwise.nil
def hitsL (l : List Rc) (r c : Int) : Bool := l.any fun x => hasB x.a x.b x.c x.d r c
def rowL (l : List Rc) (r : Int) : Nat := ((List.range 50).filter fun (c : Nat) => hitsL l r ((c : Int) + 1)).length
def cellsL (l : List Rc) : Nat := ((List.range 1000).map fun (r : Nat) => rowL l ((r : Int) + 1)).sum
end Go.Proofs.YtakamedgdiffbaaGreatDoor.RefsC
namespace Go.Proofs.YtakamedgdiffbaaGreatDoor.RefsC
set_option linter.unusedVariables false
open Go.RowKit Go.Proofs.YtakamedgdiffbaaGreatDoor.NumC
def RAt (w : World) (B : Nat) (l : List Rc) (A : Option Addr) : Prop := l = [] ∨ ∃ g o, A = some ⟨g, o, none⟩ ∧ g < B ∧ ∀ i x, l[i]? = some x →
  w.cell? ⟨g, o + i * 4, none⟩ = some (.int .i64 x.a) ∧ w.cell? ⟨g, o + i * 4 + 1, none⟩ = some (.int .i64 x.b) ∧ w.cell? ⟨g, o + i * 4 + 2, none⟩ = some (.int .i64 x.c) ∧ w.cell? ⟨g, o + i * 4 + 3, none⟩ = some (.int .i64 x.d)
theorem RAt.below {w w' : World} {B : Nat} {l : List Rc} {A : Option Addr} (h : RAt w B l A) (hb : Below B w w') : RAt w' B l A := by
  rcases h with h | ⟨g, o, e, hg, h⟩
  · exact Or.inl h
  · refine Or.inr ⟨g, o, e, hg, fun i x hx => ?_⟩
    obtain ⟨h0, h1, h2, h3⟩ := h i x hx
    exact ⟨(hb.cell (p := ⟨g, _, none⟩) hg).trans h0, (hb.cell (p := ⟨g, _, none⟩) hg).trans h1, (hb.cell (p := ⟨g, _, none⟩) hg).trans h2, (hb.cell (p := ⟨g, _, none⟩) hg).trans h3⟩
theorem RAt.mono {w : World} {B C : Nat} {l : List Rc} {A : Option Addr} (h : RAt w B l A) (hb : B ≤ C) : RAt w C l A := by
  rcases h with h | ⟨g, o, e, hg, h⟩
  · exact Or.inl h
  · exact Or.inr ⟨g, o, e, by omega, h⟩
theorem RAt.nth {w : World} {B : Nat} {l : List Rc} {A : Option Addr} (h : RAt w B l A) (i : Nat) (x : Rc) (hx : l[i]? = some x) : ∃ g o, A = some ⟨g, o, none⟩ ∧ g < B ∧
    w.cell? ⟨g, o + i * 4, none⟩ = some (.int .i64 x.a) ∧ w.cell? ⟨g, o + i * 4 + 1, none⟩ = some (.int .i64 x.b) ∧ w.cell? ⟨g, o + i * 4 + 2, none⟩ = some (.int .i64 x.c) ∧ w.cell? ⟨g, o + i * 4 + 3, none⟩ = some (.int .i64 x.d) := by
  rcases h with h | ⟨g, o, e, hg, h⟩
  · rw [h] at hx; cases hx
  · exact ⟨g, o, e, hg, h i x hx⟩
theorem nth_some (l : List Rc) (i : Nat) (h : i < l.length) : ∃ x, l[i]? = some x := ⟨l[i], List.getElem?_eq_getElem h⟩
def RBox (w : World) (b : Nat) (x : Rc) : Prop := w.heap[b]? = some (.cells #[.int .i64 x.a, .int .i64 x.b, .int .i64 x.c, .int .i64 x.d] 51 (0, 0))
theorem RBox.new (w : World) (x : Rc) : RBox (w.alloc (.cells #[.int .i64 x.a, .int .i64 x.b, .int .i64 x.c, .int .i64 x.d] 51)) w.heap.size x := heap_alloc_new _ _
theorem RBox.lt {w : World} {b : Nat} {x : Rc} (h : RBox w b x) : b < w.heap.size := (Array.getElem?_eq_some_iff.1 h).1
theorem RBox.below {w w' : World} {b n : Nat} {x : Rc} (h : RBox w b x) (hb : Below n w w') (hn : b < n) : RBox w' b x := (hb.block b hn).trans h
theorem RBox.cells {w : World} {b : Nat} {x : Rc} (h : RBox w b x) : w.cell? ⟨b, 0, none⟩ = some (.int .i64 x.a) ∧ w.cell? ⟨b, 1, none⟩ = some (.int .i64 x.b) ∧ w.cell? ⟨b, 2, none⟩ = some (.int .i64 x.c) ∧ w.cell? ⟨b, 3, none⟩ = some (.int .i64 x.d) := by
  unfold RBox at h
  unfold World.cell?
  simp [h]
theorem below_drew {n : Nat} {w w' : World} (h : Below n w w') : Below n w w'.drew := ⟨h.os, h.tape, h.output, h.size, h.block⟩
end Go.Proofs.YtakamedgdiffbaaGreatDoor.RefsC
namespace Go.Proofs.YtakamedgdiffbaaGreatDoor.TreeC
set_option linter.unusedVariables false
open Go.RowKit Go.Proofs.YtakamedgdiffbaaGreatDoor.NumC Go.Proofs.YtakamedgdiffbaaGreatDoor.LexC
theorem addr_add0 (g j : Nat) : (⟨g, 0, none⟩ : Addr).add j = ⟨g, j, none⟩ := by unfold Addr.add; split <;> simp_all
theorem addr_add (g i j : Nat) : (⟨g, i, none⟩ : Addr).add j = ⟨g, i + j, none⟩ := by
  unfold Addr.add
  split
  · rename_i h; subst h; rfl
  · rfl
theorem below_grown {w wr w' : World} {B : Nat} {row : Option Nat} (h : Below B w wr) (hB : B ≤ wr.heap.size) (hg : wr.grownBy w' row) (hr : ∀ k, row = some k → B ≤ k) : Below B w w' :=
  ⟨hg.os.trans h.os, hg.tape.trans h.tape, hg.output.trans h.output, Nat.le_trans h.size hg.size, fun k hk => (hg.block k (by omega) (fun e => by have := hr k e.symm; omega)).trans (h.block k hk)⟩
end Go.Proofs.YtakamedgdiffbaaGreatDoor.TreeC
namespace Go.Proofs.YtakamedgdiffbaaGreatDoor.TreeC
set_option linter.unusedVariables false
open Go.RowKit Go.Proofs.YtakamedgdiffbaaGreatDoor.NumC Go.Proofs.YtakamedgdiffbaaGreatDoor.LexC
theorem run_append_none0 {w : World} (base : Nat) (t ty e : TypeId) (i : TypeInfo) (size c : Nat) (ht : Tryz.prog.underlying t = some (.slice e)) (hi : Tryz.prog.info? e = some i)
    (v : Value) (n : Nat) (xs : List Value) (hown : w.ownsRow base e size v n xs) : (Builtin.append_ #[t, t] ty #[v, .slice none 0 c]).run Tryz.prog w = .ok v w := by
  rcases hown.2 with ⟨rfl, rfl⟩ | ⟨g, cap, cur, rfl, _, _, hnc, _⟩
  · simp [Builtin.append_, run_underlying ht, sizeOf, typeInfo, hi, Builtin.lenOf, Builtin.firstCells]
  · simp [Builtin.append_, run_underlying ht, sizeOf, typeInfo, hi, Builtin.lenOf, Builtin.firstCells, hnc, storeCells]
end Go.Proofs.YtakamedgdiffbaaGreatDoor.TreeC
namespace Go.Proofs.YtakamedgdiffbaaGreatDoor.RefsC
set_option linter.unusedVariables false
open Go.RowKit Go.Proofs.YtakamedgdiffbaaGreatDoor.NumC
open Go.Proofs.YtakamedgdiffbaaGreatDoor.TreeC (Kept)
def colN (p q : Nat) : Nat := 2 ^ (q + 1) - 2 ^ p
theorem col_bit {p q : Nat} (h : p ≤ q) (i : Nat) : (colN p q).testBit i = decide (p ≤ i ∧ i ≤ q) := by
  have e : colN p q = 2 ^ p * (2 ^ (q + 1 - p) - 1) := by
    unfold colN
    rw [Nat.mul_sub, Nat.mul_one, ← Nat.pow_add, show p + (q + 1 - p) = q + 1 from by omega]
  rw [e, Nat.testBit_two_pow_mul, Nat.testBit_two_pow_sub_one, ← Bool.decide_and, decide_eq_decide]
  omega
theorem col_lt {p q : Nat} (hq : q ≤ 50) : colN p q < 2251799813685248 := by
  unfold colN
  have h1 : 2 ^ (q + 1) ≤ 2 ^ 51 := Nat.pow_le_pow_right (by decide) (by omega)
  have h2 : 0 < 2 ^ p := Nat.pow_pos (by decide)
  omega
theorem col_wrap {p q : Nat} (h : p ≤ q) (hq : q ≤ 50) : IntKind.u64.wrap (IntKind.u64.wrap (2 ^ (q + 1)) - IntKind.u64.wrap (2 ^ p)) = ((colN p q : Nat) : Int) := by
  have h1 : (2 : Nat) ^ (q + 1) ≤ 2 ^ 51 := Nat.pow_le_pow_right (by decide) (by omega)
  have h2 : (2 : Nat) ^ p ≤ 2 ^ (q + 1) := Nat.pow_le_pow_right (by decide) (by omega)
  have h3 : (2 : Int) ^ (q + 1) = ((2 ^ (q + 1) : Nat) : Int) := by push_cast; rfl
  have h4 : (2 : Int) ^ p = ((2 ^ p : Nat) : Int) := by push_cast; rfl
  rw [h3, h4]
  unfold colN
  generalize (2 : Nat) ^ (q + 1) = x at *
  generalize (2 : Nat) ^ p = y at *
  clear h3 h4
  simp only [IntKind.wrap_u64]
  omega
def coverN (m : Nat → Nat) (v o n : Nat) (i : Nat) : Nat := if o ≤ i ∧ i < o + n then m i ||| v else m i
end Go.Proofs.YtakamedgdiffbaaGreatDoor.RefsC
