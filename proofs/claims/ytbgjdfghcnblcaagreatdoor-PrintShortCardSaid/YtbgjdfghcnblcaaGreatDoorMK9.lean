/-
  Contract of tree's code: copied.
-/
import Derived.Test.YtbgjdfghcnblcaaGreatDoorMK1
import Derived.Test.YtbgjdfghcnblcaaGreatDoorMP0
import Derived.Test.YtbgjdfghcnblcaaGreatDoorMVal
import Derived.OwnWalk
import Derived.Deep.MidRow
namespace Go.Proofs.YtbgjdfghcnblcaaGreatDoor.TreeC
set_option linter.unusedVariables false
open Go.RowKit Go.Proofs.YtbgjdfghcnblcaaGreatDoor.NumC Go.Proofs.YtbgjdfghcnblcaaGreatDoor.LexC

theorem NLoc.put3 {w : World} {b n c : Nat} {f : Fld} {A : Option Addr} (h : NLoc w b f A n c) : NLoc (w.setCell ⟨b, 3, none⟩ (.string f.vs)) b f A n c := by
  have h1 := h.at_
  exact ⟨by simp [World.setCell, Array.getElem?_modify, h1]⟩
theorem NLoc.put8 {w : World} {b n c : Nat} {f : Fld} {A : Option Addr} (h : NLoc w b f A n c) : NLoc (w.setCell ⟨b, 8, none⟩ (.string f.op)) b f A n c := by
  have h1 := h.at_
  exact ⟨by simp [World.setCell, Array.getElem?_modify, h1]⟩
theorem kept_cells {x : Nat} {a : World} : ∀ (vs : List Value) (o : Nat) (w : World), Kept x a w → Kept x a (w.setCells x o vs)
  | [], _, _, h => h
  | v :: vs, o, w, h => kept_cells vs (o + 1) _ (h.setCell o v)
/-- A node in a row, its Args elsewhere. -/
def ItemAt (w : World) (H g j : Nat) (a : Nd) : Prop := ∃ A c, KidsAt w (fun b => H ≤ b ∧ b ≠ g) a.kids A ∧ w.rangeAt g (j * 10) [.int .i64 (a).f.k, .int .i64 (a).f.vk, .int .i64 (a).f.vn, .string (a).f.vs, .int .i64 (a).f.r1, .int .i64 (a).f.r2, .int .i64 (a).f.r3, .int .i64 (a).f.r4, .string (a).f.op, .slice A (a).kids.len c]
/-- Where the row of copies stands. -/
structure CpIn (w wr : World) (f : Fld) (A : Option Addr) (m c : Nat) (kd : Fo) (i g : Nat) : Prop where
  below : Below w.heap.size w wr
  loc : NLoc wr w.heap.size f A m c
  box : NBox wr (w.heap.size + 1)
  lt : g < wr.heap.size
  gt : w.heap.size + 1 < g
  room : wr.there g 0 (kd.len * 10)
  items : ∀ j, j < i → ItemAt wr (w.heap.size + 2) g j (kd.nth j)
/-- A row of items reads as the trees. -/
theorem row_items {w : World} {H g : Nat} (hH : H ≤ g) : ∀ (kd : Fo) (o : Nat), (∀ j, j < kd.len → ItemAt w H g (o + j) (kd.nth j)) → RowAt w (fun b => H ≤ b) kd g (o * 10)
  | .nil, _, _ => trivial
  | .cons f k n, o, h => by
    obtain ⟨A, c, hk, hr⟩ := h 0 (by simp [Fo.len])
    rw [Nat.add_zero] at hr
    have hk2 : KidsAt w (fun b => H ≤ b) k A := hk.keep (y := w.heap.size) (Kept.refl _ _) (fun b hb hl => ⟨by omega, hb.1⟩)
    refine ⟨⟨hH, hr 0 _ rfl, hr 1 _ rfl, hr 2 _ rfl, hr 3 _ rfl, hr 4 _ rfl, hr 5 _ rfl, hr 6 _ rfl, hr 7 _ rfl, hr 8 _ rfl⟩, ⟨A, c, hr 9 _ rfl, hk2⟩, ?_⟩
    have := row_items hH n (o + 1) (fun j hj => by
      have := h (j + 1) (by simp only [Fo.len]; omega)
      rw [show o + 1 + j = o + (j + 1) by omega]
      exact this)
    rwa [show (o + 1) * 10 = o * 10 + 10 by omega] at this
/-- One item more. -/
theorem CpIn.step {w wr W1 w2 : World} {f : Fld} {A : Option Addr} {m c : Nat} {kd : Fo} {i g : Nat} (h : CpIn w wr f A m c kd i g) (hi : i < kd.len) (h1 : Below wr.heap.size wr W1) (h2 : Below W1.heap.size W1 w2) {A3 : Option Addr} {c3 : Nat}
    (hk : KidsAt w2 (fun b => W1.heap.size ≤ b) (kd.nth i).kids A3) : CpIn w (w2.setCells g (i * 10) [.int .i64 (kd.nth i).f.k, .int .i64 (kd.nth i).f.vk, .int .i64 (kd.nth i).f.vn, .string (kd.nth i).f.vs, .int .i64 (kd.nth i).f.r1, .int .i64 (kd.nth i).f.r2, .int .i64 (kd.nth i).f.r3, .int .i64 (kd.nth i).f.r4, .string (kd.nth i).f.op, .slice A3 (kd.nth i).kids.len c3]) f A m c kd (i + 1) g := by
  have hB : Below wr.heap.size wr w2 := h1.trans (h2.mono h1.size)
  have s1 := h.below.size
  have s2 := h1.size
  have s3 := h2.size
  have l0 := h.lt
  have g0 := h.gt
  have kk : Kept g w2 (w2.setCells g (i * 10) [.int .i64 (kd.nth i).f.k, .int .i64 (kd.nth i).f.vk, .int .i64 (kd.nth i).f.vn, .string (kd.nth i).f.vs, .int .i64 (kd.nth i).f.r1, .int .i64 (kd.nth i).f.r2, .int .i64 (kd.nth i).f.r3, .int .i64 (kd.nth i).f.r4, .string (kd.nth i).f.op, .slice A3 (kd.nth i).kids.len c3]) := kept_cells _ _ _ (Kept.refl g w2)
  have k2 : Kept g wr (w2.setCells g (i * 10) [.int .i64 (kd.nth i).f.k, .int .i64 (kd.nth i).f.vk, .int .i64 (kd.nth i).f.vn, .string (kd.nth i).f.vs, .int .i64 (kd.nth i).f.r1, .int .i64 (kd.nth i).f.r2, .int .i64 (kd.nth i).f.r3, .int .i64 (kd.nth i).f.r4, .string (kd.nth i).f.op, .slice A3 (kd.nth i).kids.len c3]) := (Kept.of (x := g) hB).trans kk
  have t2 : w2.there g 0 (kd.len * 10) := fun j hj => by
    have := h.room j hj
    have hb := hB.block g l0
    unfold World.cell? World.frozen? at this ⊢
    rw [hb]
    exact this
  have t3 : w2.there g (i * 10) 10 := fun j hj => by
    have := t2 (i * 10 + j) (by omega)
    rwa [Nat.zero_add] at this
  refine ⟨k2.under (x := w.heap.size) (by omega) s1 |> (fun q => h.below.trans q), h.loc.kept k2 (by omega), h.box.kept k2 (by omega), Nat.lt_of_lt_of_le l0 k2.size, g0, World.there_setCells t2 _ _ _, fun j hj => ?_⟩
  by_cases hji : j = i
  · subst hji
    refine ⟨A3, c3, hk.keep kk (fun b hb hl => ⟨by omega, by omega, by omega⟩), World.rangeAt_setCells_same _ _ _ _ t3⟩
  · obtain ⟨A4, c4, hk4, hr4⟩ := h.items j (by omega)
    refine ⟨A4, c4, hk4.keep k2 (fun b hb hl => ⟨hb.2, hb⟩), World.rangeAt_setCells_apart (fun q v hv => ?_) _ _ _ (Or.inr (Or.inl (by simp only [List.length_cons, List.length_nil]; omega)))⟩
    have := hr4 q v hv
    have hb := hB.block g l0
    unfold World.cell? at this ⊢
    rw [hb]
    exact this

theorem node_one (f : Fld) (A : Option Addr) (n c : Nat) : (#[.int .i64 f.k, .int .i64 f.vk, .int .i64 f.vn, .string f.vs, .int .i64 f.r1, .int .i64 f.r2, .int .i64 f.r3, .int .i64 f.r4, .string f.op, .slice A n c] : Array Value).all (·.oneCell') = true := by simp [Value.oneCell']
theorem own_there {w : World} {base n g : Nat} {e : TypeId} {xs : List Value} (h : w.ownsRow base e 10 (.slice (some ⟨g, 0, none⟩) n n) n xs) : w.there g 0 (n * 10) ∧ g < w.heap.size := by
  rcases h.2 with ⟨h, -⟩ | ⟨g', cap, cur, he, hb, hg, h1, h2, hs, -⟩
  · cases h
  · injection he with he1 he2 he3
    injection he1 with he1
    injection he1 with he1
    subst he1 he3
    refine ⟨fun j hj => ?_, (Array.getElem?_eq_some_iff.1 hg).1⟩
    have hj2 : j < cur.size := by omega
    constructor <;> simp [World.cell?, World.frozen?, hg, hj2]
theorem CpIn.start {w W5 w6 : World} {f : Fld} {A : Option Addr} {m c : Nat} {kd : Fo} {e : TypeId} {xs : List Value} (B5 : Below w.heap.size w W5) (L5 : NLoc W5 w.heap.size f A m c) (X5 : NBox W5 (w.heap.size + 1))
    (ho6 : w6.ownsRow 0 e 10 (.slice (some ⟨W5.heap.size, 0, none⟩) kd.len kd.len) kd.len xs) (hg6 : W5.grownBy w6 none) : CpIn w w6 f A m c kd 0 W5.heap.size := by
  have h1 : Below W5.heap.size W5 w6 := below_grown (Below.refl _ _) (Nat.le_refl _) hg6 (fun k h => by cases h)
  have h2 : Kept W5.heap.size W5 w6 := Kept.of h1
  exact ⟨B5.trans (h1.mono B5.size), L5.kept h2 (Nat.ne_of_lt L5.lt), X5.kept h2 (Nat.ne_of_lt X5.lt), (own_there ho6).2, X5.lt, (own_there ho6).1, fun j hj => absurd hj (Nat.not_lt_zero _)⟩
theorem Fo.short_drop : ∀ (x : Fo) (i : Nat), x.Short → (x.drop i).Short
  | .nil, 0, _ => by simp [Fo.drop, Fo.Short]
  | .nil, i + 1, _ => by simp [Fo.drop, Fo.Short]
  | .cons f k n, 0, h => by simpa [Fo.drop] using h
  | .cons f k n, i + 1, h => by simpa [Fo.drop] using Fo.short_drop n i h.2.2
theorem Fo.short_nth (x : Fo) (i : Nat) (h : i < x.len) (hs : x.Short) : (x.nth i).one.Short := by
  have := Fo.short_drop x i hs
  rw [Fo.drop_nth x i h] at this
  exact ⟨this.1, this.2.1, trivial⟩
/-- What a copy is. -/
def CpPost (a : Nd) (w : World) (e : Ending) (w' : World) : Prop := ∃ A c, e = .returned (.agg #[.int .i64 a.f.k, .int .i64 a.f.vk, .int .i64 a.f.vn, .string a.f.vs, .int .i64 a.f.r1, .int .i64 a.f.r2, .int .i64 a.f.r3, .int .i64 a.f.r4, .string a.f.op, .slice A a.kids.len c]) ∧ Below w.heap.size w w' ∧ KidsAt w' (fun b => w.heap.size ≤ b) a.kids A
theorem CpIn.fin {w wr V W : World} {f : Fld} {A : Option Addr} {m c : Nat} {kd : Fo} {g : Nat} (h : CpIn w wr f A m c kd kd.len g) (h1 : Kept w.heap.size wr V) (h2 : Kept (w.heap.size + 1) V W) :
    CpPost ⟨f, kd⟩ w (.returned (.agg #[.int .i64 f.k, .int .i64 f.vk, .int .i64 f.vn, .string f.vs, .int .i64 f.r1, .int .i64 f.r2, .int .i64 f.r3, .int .i64 f.r4, .string f.op, .slice (some ⟨g, 0, none⟩) kd.len kd.len])) W := by
  have g0 := h.gt
  have s1 := h.below.size
  have s2 := h1.size
  have hr := row_items (w := wr) (H := w.heap.size + 2) (g := g) (by omega) kd 0 (fun j hj => by rw [Nat.zero_add]; exact h.items j hj)
  rw [Nat.zero_mul] at hr
  have hk : KidsAt wr (fun b => w.heap.size + 2 ≤ b) kd (some ⟨g, 0, none⟩) := Or.inr ⟨g, 0, rfl, hr⟩
  have hk1 := hk.keep (Q := fun b => w.heap.size + 2 ≤ b) h1 (fun b hb hl => ⟨by omega, hb⟩)
  have hk2 := hk1.keep (Q := fun b => w.heap.size ≤ b) h2 (fun b hb hl => ⟨by omega, by omega⟩)
  exact ⟨_, _, rfl, (h.below.trans (h1.under (Nat.le_refl _) s1)).trans (h2.under (Nat.le_succ _) (by omega)), hk2⟩
end Go.Proofs.YtbgjdfghcnblcaaGreatDoor.TreeC
