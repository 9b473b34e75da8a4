/-
  Contract of tree's code: copied.
-/
import Derived.Test.YtkdgiadpmfpjnaaGreatDoorMK4
import Derived.Test.YtkdgiadpmfpjnaaGreatDoorMP0
import Derived.Test.YtkdgiadpmfpjnaaGreatDoorMValC
import Derived.OwnWalk
import Derived.Deep.MidRow
namespace Go.Proofs.YtkdgiadpmfpjnaaGreatDoor.TreeC
set_option linter.unusedVariables false
open Go.RowKit Go.Proofs.YtkdgiadpmfpjnaaGreatDoor.NumC Go.Proofs.YtkdgiadpmfpjnaaGreatDoor.LexC

theorem NLoc.put3 {w : World} {b n c : Nat} {f : Fld} {A : Option Addr} (h : NLoc w b f A n c) : NLoc (w.setCell ⟨b, 3, none⟩ (.string f.vs)) b f A n c := by
  have h1 := h.at_
  exact ⟨by simp [World.setCell, Array.getElem?_modify, h1]⟩
theorem NLoc.put8 {w : World} {b n c : Nat} {f : Fld} {A : Option Addr} (h : NLoc w b f A n c) : NLoc (w.setCell ⟨b, 8, none⟩ (.string f.op)) b f A n c := by
  have h1 := h.at_
  exact ⟨by simp [World.setCell, Array.getElem?_modify, h1]⟩
theorem kept_cells {x : Nat} {a : World} : ∀ (vs : List Value) (o : Nat) (w : World), Kept x a w → Kept x a (w.setCells x o vs)
  | [], _, _, h => h
  | v :: vs, o, w, h => kept_cells vs (o + 1) _ (h.setCell o v)
/-- A node in a row, its Args elsewhere. -/
def ItemAt (w : World) (H g j : Nat) (a : Nd) : Prop := ∃ A c, KidsAt w (fun b => H ≤ b ∧ b ≠ g) a.kids A ∧ w.rangeAt g (j * 10) [.int .i64 (a).f.k, .int .i64 (a).f.vk, .int .i64 (a).f.vn, .string (a).f.vs, .int .i64 (a).f.r1, .int .i64 (a).f.r2, .int .i64 (a).f.r3, .int .i64 (a).f.r4, .string (a).f.op, .slice A (a).kids.len c]
/-- Where the row of copies stands. -/
structure CpIn (w wr : World) (f : Fld) (A : Option Addr) (m c : Nat) (kd : Fo) (i g : Nat) : Prop where
  below : Below w.heap.size w wr
  loc : NLoc wr w.heap.size f A m c
  box : NBox wr (w.heap.size + 1)
  lt : g < wr.heap.size
  gt : w.heap.size + 1 < g
  room : wr.there g 0 (kd.len * 10)
  items : ∀ j, j < i → ItemAt wr (w.heap.size + 2) g j (kd.nth j)
/-- A row of items reads as the trees. -/
theorem row_items {w : World} {H g : Nat} (hH : H ≤ g) : ∀ (kd : Fo) (o : Nat), (∀ j, j < kd.len → ItemAt w H g (o + j) (kd.nth j)) → RowAt w (fun b => H ≤ b) kd g (o * 10)
  | .nil, _, _ => trivial
  | .cons f k n, o, h => by
    obtain ⟨A, c, hk, hr⟩ := h 0 (by simp [Fo.len])
    rw [Nat.add_zero] at hr
    have hk2 : KidsAt w (fun b => H ≤ b) k A := hk.keep (y := w.heap.size) (Kept.refl _ _) (fun b hb hl => ⟨by omega, hb.1⟩)
    refine ⟨⟨hH, hr 0 _ rfl, hr 1 _ rfl, hr 2 _ rfl, hr 3 _ rfl, hr 4 _ rfl, hr 5 _ rfl, hr 6 _ rfl, hr 7 _ rfl, hr 8 _ rfl⟩, ⟨A, c, hr 9 _ rfl, hk2⟩, ?_⟩
    have := row_items hH n (o + 1) (fun j hj => by
      have := h (j + 1) (by simp only [Fo.len]; omega)
      rw [show o + 1 + j = o + (j + 1) by omega]
      exact this)
    rwa [show (o + 1) * 10 = o * 10 + 10 by omega] at this
/-- One item more. -/
theorem CpIn.step {w wr W1 w2 : World} {f : Fld} {A : Option Addr} {m c : Nat} {kd : Fo} {i g : Nat} (h : CpIn w wr f A m c kd i g) (hi : i < kd.len) (h1 : Below wr.heap.size wr W1) (h2 : Below W1.heap.size W1 w2) {A3 : Option Addr} {c3 : Nat}
    (hk : KidsAt w2 (fun b => W1.heap.size ≤ b) (kd.nth i).kids A3) : CpIn w (w2.setCells g (i * 10) [.int .i64 (kd.nth i).f.k, .int .i64 (kd.nth i).f.vk, .int .i64 (kd.nth i).f.vn, .string (kd.nth i).f.vs, .int .i64 (kd.nth i).f.r1, .int .i64 (kd.nth i).f.r2, .int .i64 (kd.nth i).f.r3, .int .i64 (kd.nth i).f.r4, .string (kd.nth i).f.op, .slice A3 (kd.nth i).kids.len c3]) f A m c kd (i + 1) g := by
  have hB : Below wr.heap.size wr w2 := h1.trans (h2.mono h1.size)
  have s1 := h.below.size
  have s2 := h1.size
  have s3 := h2.size
  have l0 := h.lt
  have g0 := h.gt
  have kk : Kept g w2 (w2.setCells g (i * 10) [.int .i64 (kd.nth i).f.k, .int .i64 (kd.nth i).f.vk, .int .i64 (kd.nth i).f.vn, .string (kd.nth i).f.vs, .int .i64 (kd.nth i).f.r1, .int .i64 (kd.nth i).f.r2, .int .i64 (kd.nth i).f.r3, .int .i64 (kd.nth i).f.r4, .string (kd.nth i).f.op, .slice A3 (kd.nth i).kids.len c3]) := kept_cells _ _ _ (Kept.refl g w2)
  have k2 : Kept g wr (w2.setCells g (i * 10) [.int .i64 (kd.nth i).f.k, .int .i64 (kd.nth i).f.vk, .int .i64 (kd.nth i).f.vn, .string (kd.nth i).f.vs, .int .i64 (kd.nth i).f.r1, .int .i64 (kd.nth i).f.r2, .int .i64 (kd.nth i).f.r3, .int .i64 (kd.nth i).f.r4, .string (kd.nth i).f.op, .slice A3 (kd.nth i).kids.len c3]) := (Kept.of (x := g) hB).trans kk
  have t2 : w2.there g 0 (kd.len * 10) := fun j hj => by
    have := h.room j hj
    have hb := hB.block g l0
    unfold World.cell? World.frozen? at this ⊢
    rw [hb]
    exact this
  have t3 : w2.there g (i * 10) 10 := fun j hj => by
    have := t2 (i * 10 + j) (by omega)
    rwa [Nat.zero_add] at this
  refine ⟨k2.under (x := w.heap.size) (by omega) s1 |> (fun q => h.below.trans q), h.loc.kept k2 (by omega), h.box.kept k2 (by omega), Nat.lt_of_lt_of_le l0 k2.size, g0, World.there_setCells t2 _ _ _, fun j hj => ?_⟩
  by_cases hji : j = i
  · subst hji
    refine ⟨A3, c3, hk.keep kk (fun b hb hl => ⟨by omega, by omega, by omega⟩), World.rangeAt_setCells_same _ _ _ _ t3⟩
  · obtain ⟨A4, c4, hk4, hr4⟩ := h.items j (by omega)
    refine ⟨A4, c4, hk4.keep k2 (fun b hb hl => ⟨hb.2, hb⟩), World.rangeAt_setCells_apart (fun q v hv => ?_) _ _ _ (Or.inr (Or.inl (by simp only [List.length_cons, List.length_nil]; omega)))⟩
    have := hr4 q v hv
    have hb := hB.block g l0
    unfold World.cell? at this ⊢
    rw [hb]
    exact this

theorem node_one (f : Fld) (A : Option Addr) (n c : Nat) : (#[.int .i64 f.k, .int .i64 f.vk, .int .i64 f.vn, .string f.vs, .int .i64 f.r1, .int .i64 f.r2, .int .i64 f.r3, .int .i64 f.r4, .string f.op, .slice A n c] : Array Value).all (·.oneCell') = true := by simp [Value.oneCell']
theorem own_there {w : World} {base n g : Nat} {e : TypeId} {xs : List Value} (h : w.ownsRow base e 10 (.slice (some ⟨g, 0, none⟩) n n) n xs) : w.there g 0 (n * 10) ∧ g < w.heap.size := by
  rcases h.2 with ⟨h, -⟩ | ⟨g', cap, cur, he, hb, hg, h1, h2, hs, -⟩
  · cases h
  · injection he with he1 he2 he3
    injection he1 with he1
    injection he1 with he1
    subst he1 he3
    refine ⟨fun j hj => ?_, (Array.getElem?_eq_some_iff.1 hg).1⟩
    have hj2 : j < cur.size := by omega
    constructor <;> simp [World.cell?, World.frozen?, hg, hj2]
theorem CpIn.start {w W5 w6 : World} {f : Fld} {A : Option Addr} {m c : Nat} {kd : Fo} {e : TypeId} {xs : List Value} (B5 : Below w.heap.size w W5) (L5 : NLoc W5 w.heap.size f A m c) (X5 : NBox W5 (w.heap.size + 1))
    (ho6 : w6.ownsRow 0 e 10 (.slice (some ⟨W5.heap.size, 0, none⟩) kd.len kd.len) kd.len xs) (hg6 : W5.grownBy w6 none) : CpIn w w6 f A m c kd 0 W5.heap.size := by
  have h1 : Below W5.heap.size W5 w6 := below_grown (Below.refl _ _) (Nat.le_refl _) hg6 (fun k h => by cases h)
  have h2 : Kept W5.heap.size W5 w6 := Kept.of h1
  exact ⟨B5.trans (h1.mono B5.size), L5.kept h2 (Nat.ne_of_lt L5.lt), X5.kept h2 (Nat.ne_of_lt X5.lt), (own_there ho6).2, X5.lt, (own_there ho6).1, fun j hj => absurd hj (Nat.not_lt_zero _)⟩
theorem Fo.short_drop : ∀ (x : Fo) (i : Nat), x.Short → (x.drop i).Short
  | .nil, 0, _ => by simp [Fo.drop, Fo.Short]
  | .nil, i + 1, _ => by simp [Fo.drop, Fo.Short]
  | .cons f k n, 0, h => by simpa [Fo.drop] using h
  | .cons f k n, i + 1, h => by simpa [Fo.drop] using Fo.short_drop n i h.2.2
theorem Fo.short_nth (x : Fo) (i : Nat) (h : i < x.len) (hs : x.Short) : (x.nth i).one.Short := by
  have := Fo.short_drop x i hs
  rw [Fo.drop_nth x i h] at this
  exact ⟨this.1, this.2.1, trivial⟩
/-- What a copy is. -/
def CpPost (a : Nd) (w : World) (e : Ending) (w' : World) : Prop := ∃ A c, e = .returned (.agg #[.int .i64 a.f.k, .int .i64 a.f.vk, .int .i64 a.f.vn, .string a.f.vs, .int .i64 a.f.r1, .int .i64 a.f.r2, .int .i64 a.f.r3, .int .i64 a.f.r4, .string a.f.op, .slice A a.kids.len c]) ∧ Below w.heap.size w w' ∧ KidsAt w' (fun b => w.heap.size ≤ b) a.kids A
theorem CpIn.fin {w wr V W : World} {f : Fld} {A : Option Addr} {m c : Nat} {kd : Fo} {g : Nat} (h : CpIn w wr f A m c kd kd.len g) (h1 : Kept w.heap.size wr V) (h2 : Kept (w.heap.size + 1) V W) :
    CpPost ⟨f, kd⟩ w (.returned (.agg #[.int .i64 f.k, .int .i64 f.vk, .int .i64 f.vn, .string f.vs, .int .i64 f.r1, .int .i64 f.r2, .int .i64 f.r3, .int .i64 f.r4, .string f.op, .slice (some ⟨g, 0, none⟩) kd.len kd.len])) W := by
  have g0 := h.gt
  have s1 := h.below.size
  have s2 := h1.size
  have hr := row_items (w := wr) (H := w.heap.size + 2) (g := g) (by omega) kd 0 (fun j hj => by rw [Nat.zero_add]; exact h.items j hj)
  rw [Nat.zero_mul] at hr
  have hk : KidsAt wr (fun b => w.heap.size + 2 ≤ b) kd (some ⟨g, 0, none⟩) := Or.inr ⟨g, 0, rfl, hr⟩
  have hk1 := hk.keep (Q := fun b => w.heap.size + 2 ≤ b) h1 (fun b hb hl => ⟨by omega, hb⟩)
  have hk2 := hk1.keep (Q := fun b => w.heap.size ≤ b) h2 (fun b hb hl => ⟨by omega, by omega⟩)
  exact ⟨_, _, rfl, (h.below.trans (h1.under (Nat.le_refl _) s1)).trans (h2.under (Nat.le_succ _) (by omega)), hk2⟩
set_option maxRecDepth 100000 in
set_option maxHeartbeats 2000000 in
theorem ccopied : ∀ (n : Nat) (a : Nd) (A : Option Addr) (c : Nat) (w : World), a.size ≤ n → a.size ≤ 2000 → a.one.Short → KidsAt w (fun g => g < w.heap.size) a.kids A → Calls Tryz.prog 30 #[.agg #[.int .i64 a.f.k, .int .i64 a.f.vk, .int .i64 a.f.vn, .string a.f.vs, .int .i64 a.f.r1, .int .i64 a.f.r2, .int .i64 a.f.r3, .int .i64 a.f.r4, .string a.f.op, .slice A a.kids.len c]] w (CpPost a w) := by
  intro n
  induction n with
  | zero => intro a A c w h _; exact absurd h (by unfold Nd.size; omega)
  | succ n ih =>
    intro a A c w hsz hsm hsh hK
    obtain ⟨f, kd⟩ := a
    simp only at hK ⊢
    have hlen : kd.len ≤ 2000 := by have := Fo.len_size kd; have : (Nd.mk f kd).size = 1 + kd.size := rfl; omega
    have hkz : kd.size ≤ n := by have : (Nd.mk f kd).size = 1 + kd.size := rfl; omega
    have hks : kd.size ≤ 2000 := by have : (Nd.mk f kd).size = 1 + kd.size := rfl; omega
    have hvs : f.vs.size ≤ 281474976710656 := Nat.le_trans hsh.1.1 (by decide)
    have hop : f.op.size ≤ 281474976710656 := Nat.le_trans hsh.1.2 (by decide)
    have HSK := Lib.hid hsh.2.1
    have HK := Lib.hid hK
    have b1 : Below w.heap.size w ((w.alloc (.cells #[.int .i64 f.k, .int .i64 f.vk, .int .i64 f.vn, .string f.vs, .int .i64 f.r1, .int .i64 f.r2, .int .i64 f.r3, .int .i64 f.r4, .string f.op, .slice A kd.len c] 31)).alloc (.cells #[.int .i64 0, .int .i64 0, .int .i64 0, .string { data := #[] }, .int .i64 0, .int .i64 0, .int .i64 0, .int .i64 0, .string { data := #[] }, .slice none 0 0] 31)) := ((Below.refl _ _).alloc (Nat.le_refl _) _).alloc (by simp) _
    have L0 : NLoc (w.alloc (.cells #[.int .i64 f.k, .int .i64 f.vk, .int .i64 f.vn, .string f.vs, .int .i64 f.r1, .int .i64 f.r2, .int .i64 f.r3, .int .i64 f.r4, .string f.op, .slice A kd.len c] 31)) w.heap.size f A kd.len c := ⟨heap_alloc_new _ _⟩
    have L1 : NLoc ((w.alloc (.cells #[.int .i64 f.k, .int .i64 f.vk, .int .i64 f.vn, .string f.vs, .int .i64 f.r1, .int .i64 f.r2, .int .i64 f.r3, .int .i64 f.r4, .string f.op, .slice A kd.len c] 31)).alloc (.cells #[.int .i64 0, .int .i64 0, .int .i64 0, .string { data := #[] }, .int .i64 0, .int .i64 0, .int .i64 0, .int .i64 0, .string { data := #[] }, .slice none 0 0] 31)) w.heap.size f A kd.len c := L0.kept (Kept.alloc (Kept.refl (w.alloc (.cells #[.int .i64 f.k, .int .i64 f.vk, .int .i64 f.vn, .string f.vs, .int .i64 f.r1, .int .i64 f.r2, .int .i64 f.r3, .int .i64 f.r4, .string f.op, .slice A kd.len c] 31)).heap.size _) _) (Nat.ne_of_lt L0.lt)
    have X1 : NBox ((w.alloc (.cells #[.int .i64 f.k, .int .i64 f.vk, .int .i64 f.vn, .string f.vs, .int .i64 f.r1, .int .i64 f.r2, .int .i64 f.r3, .int .i64 f.r4, .string f.op, .slice A kd.len c] 31)).alloc (.cells #[.int .i64 0, .int .i64 0, .int .i64 0, .string { data := #[] }, .int .i64 0, .int .i64 0, .int .i64 0, .int .i64 0, .string { data := #[] }, .slice none 0 0] 31)) (w.heap.size + 1) := by
      have := NBox.new (w.alloc (.cells #[.int .i64 f.k, .int .i64 f.vk, .int .i64 f.vn, .string f.vs, .int .i64 f.r1, .int .i64 f.r2, .int .i64 f.r3, .int .i64 f.r4, .string f.op, .slice A kd.len c] 31))
      rwa [show (w.alloc (.cells #[.int .i64 f.k, .int .i64 f.vk, .int .i64 f.vn, .string f.vs, .int .i64 f.r1, .int .i64 f.r2, .int .i64 f.r3, .int .i64 f.r4, .string f.op, .slice A kd.len c] 31)).heap.size = w.heap.size + 1 by simp] at this
    have hs1 : ((w.alloc (.cells #[.int .i64 f.k, .int .i64 f.vk, .int .i64 f.vn, .string f.vs, .int .i64 f.r1, .int .i64 f.r2, .int .i64 f.r3, .int .i64 f.r4, .string f.op, .slice A kd.len c] 31)).alloc (.cells #[.int .i64 0, .int .i64 0, .int .i64 0, .string { data := #[] }, .int .i64 0, .int .i64 0, .int .i64 0, .int .i64 0, .string { data := #[] }, .slice none 0 0] 31)).heap.size = w.heap.size + 2 := by simp
    have hs2 : w.heap.size + 1 < ((w.alloc (.cells #[.int .i64 f.k, .int .i64 f.vk, .int .i64 f.vn, .string f.vs, .int .i64 f.r1, .int .i64 f.r2, .int .i64 f.r3, .int .i64 f.r4, .string f.op, .slice A kd.len c] 31)).alloc (.cells #[.int .i64 0, .int .i64 0, .int .i64 0, .string { data := #[] }, .int .i64 0, .int .i64 0, .int .i64 0, .int .i64 0, .string { data := #[] }, .slice none 0 0] 31)).heap.size := by omega
    clear hs1 hK hsh hsz hsm L0
    obtain ⟨d0, d1, d2, d3, d4, d5, d6, d7, d8, d9, -⟩ := L1.cells
    go_enter Tryz.func30, Tryz.ntmps30
    go_wp2_with fail
    generalize ((w.alloc (.cells #[.int .i64 f.k, .int .i64 f.vk, .int .i64 f.vn, .string f.vs, .int .i64 f.r1, .int .i64 f.r2, .int .i64 f.r3, .int .i64 f.r4, .string f.op, .slice A kd.len c] 31)).alloc (.cells #[.int .i64 0, .int .i64 0, .int .i64 0, .string { data := #[] }, .int .i64 0, .int .i64 0, .int .i64 0, .int .i64 0, .string { data := #[] }, .slice none 0 0] 31)) = W1 at *
    refine (ValueC.clone f.vs _ hvs).mono ?_; rintro e w2 ⟨rfl, hb2⟩
    have L2 := L1.kept (Kept.of (x := W1.heap.size) hb2) (Nat.ne_of_lt L1.lt)
    have X2 := X1.kept (Kept.of (x := W1.heap.size) hb2) (Nat.ne_of_lt X1.lt)
    have B2 := b1.trans (hb2.mono b1.size)
    clear d0 d1 d2 d3 d4 d5 d6 d7 d8 d9 L1 X1 b1
    obtain ⟨d0, d1, d2, d3, d4, d5, d6, d7, d8, d9, y0, y1, y2, y3, y4, y5, y6, y7, y8, y9⟩ := L2.cells
    have q3 : Kept w.heap.size w2 (w2.setCell ⟨w.heap.size, 3, none⟩ (.string f.vs)) := (Kept.refl _ _).setCell _ _
    have L3 := L2.put3
    have X3 := X2.kept q3 (by omega)
    have B3 := B2.trans (q3.under (Nat.le_refl _) B2.size)
    clear hb2 q3 L2 X2 B2
    go_wp2_with fail
    refine (ValueC.clone f.op _ hop).mono ?_; rintro e w4 ⟨rfl, hb4⟩
    have L4 := L3.kept (Kept.of hb4) (Nat.ne_of_lt L3.lt)
    have X4 := X3.kept (Kept.of hb4) (Nat.ne_of_lt X3.lt)
    have B4 := B3.trans (hb4.mono B3.size)
    clear d0 d1 d2 d3 d4 d5 d6 d7 d8 d9 y0 y1 y2 y3 y4 y5 y6 y7 y8 y9 L3 X3 B3
    obtain ⟨d0, d1, d2, d3, d4, d5, d6, d7, d8, d9, y0, y1, y2, y3, y4, y5, y6, y7, y8, y9⟩ := L4.cells
    have q5 : Kept w.heap.size w4 (w4.setCell ⟨w.heap.size, 8, none⟩ (.string f.op)) := (Kept.refl _ _).setCell _ _
    have L5 := L4.put8
    have X5 := X4.kept q5 (by omega)
    have B5 := B4.trans (q5.under (Nat.le_refl _) B4.size)
    clear hb4 q5 L4 X4 B4
    obtain ⟨i0, hi, hz0, hz1, hz2⟩ := info_parts node_info
    go_wp2_with (at_make
                 refine wpList_make_full _ rfl (.tmp 18) (.tmp 18) 29 rfl 0 31 i0 _ 10 Tryz.underlying29 hi hz0 hz1 .i64 .i64 (kd.len : Int) (kd.len : Int) kd.len rfl rfl rfl rfl (by rw [hz2]; omega) (by unfold maxLen; omega) (Nat.zero_le _) ?_
                 intro w6 ho6 hg6
                 have HC := Lib.hid (CpIn.start B5 L5 X5 ho6 hg6)
                 clear ho6 hg6 B5 L5 X5 d0 d1 d2 d3 d4 d5 d6 d7 d8 d9 y0 y1 y2 y3 y4 y5 y6 y7 y8 y9
                 generalize (w4.setCell ⟨w.heap.size, 8, none⟩ (.string f.op)).heap.size = g at *
                 obtain ⟨d0, d1, d2, d3, d4, d5, d6, d7, d8, d9, -⟩ := HC.out.loc.cells)
    clear d0 d1 d2 d3 d4 d5 d6 d7 d8 d9
    go_loopw [23] (fun iv wr => ∃ i : Nat, i ≤ kd.len ∧ iv = .int .i64 i ∧ Hid (CpIn w wr f A kd.len c kd i g)) (fun iv _ => kd.len - (intOf iv).toNat)
    case atStart => exact ⟨0, Nat.zero_le _, rfl, HC⟩
    case round =>
      clear HC
      obtain ⟨i, hi0, rfl, HR⟩ := hrel
      have HKr := below_row HK.out HR.out.below
      by_cases hlt : i < kd.len
      · have t1 : (i : Int) < (kd.len : Int) := by omega
        obtain ⟨ga, o, rfl, hrow⟩ : ∃ ga o, A = some ⟨ga, o, none⟩ ∧ RowAt wr (fun g => g < wr.heap.size) kd ga o := by
          rcases HKr with h | h
          · rw [h] at hlt; exact absurd hlt (by simp [Fo.len])
          · exact h
        obtain ⟨A2, c2, hk2, hp, f0, f1, f2, f3, f4, f5, f6, f7, f8, f9⟩ := RowAt.nth kd ga o i hrow hlt
        have hn1 := Fo.nth_size kd i hlt
        have hB2 : Below wr.heap.size wr (wr.alloc (.cells #[.int .i64 (kd.nth i).f.k, .int .i64 (kd.nth i).f.vk, .int .i64 (kd.nth i).f.vn, .string (kd.nth i).f.vs, .int .i64 (kd.nth i).f.r1, .int .i64 (kd.nth i).f.r2, .int .i64 (kd.nth i).f.r3, .int .i64 (kd.nth i).f.r4, .string (kd.nth i).f.op, .slice A2 (kd.nth i).kids.len c2] 31)) := (Below.refl _ _).alloc (Nat.le_refl _) _
        have HI := Lib.hid (ih (kd.nth i) A2 c2 _ (by omega) (by omega) (Fo.short_nth kd i hlt HSK.out) (below_row hk2 hB2))
        have HB2 := Lib.hid hB2
        clear hrow hk2 HKr ih hn1 hB2
        go_wp2_with fail
        refine HI.out.mono ?_; rintro e w2 ⟨A3, c3, rfl, hb2, hk3⟩
        have HS := Lib.hid (HR.out.step (c3 := c3) hlt HB2.out hb2 hk3)
        have ht : w2.there g (i * 10) 10 := fun j hj => by
          have h1 := HR.out.room (i * 10 + j) (by omega)
          rw [Nat.zero_add] at h1
          have hb := (HB2.out.trans (hb2.mono HB2.out.size)).block g HR.out.lt
          unfold World.cell? World.frozen? at h1 ⊢
          rw [hb]
          exact h1
        obtain ⟨v0, e0⟩ : ∃ v, w2.cell? ⟨g, i * 10, none⟩ = some v := Option.isSome_iff_exists.1 (ht 0 (by decide)).1
        have y0 : w2.frozen? ⟨g, i * 10, none⟩ = false := (ht 0 (by decide)).2
        obtain ⟨v1, e1⟩ : ∃ v, w2.cell? ⟨g, i * 10 + 1, none⟩ = some v := Option.isSome_iff_exists.1 (ht 1 (by decide)).1
        have y1 : w2.frozen? ⟨g, i * 10 + 1, none⟩ = false := (ht 1 (by decide)).2
        obtain ⟨v2, e2⟩ : ∃ v, w2.cell? ⟨g, i * 10 + 2, none⟩ = some v := Option.isSome_iff_exists.1 (ht 2 (by decide)).1
        have y2 : w2.frozen? ⟨g, i * 10 + 2, none⟩ = false := (ht 2 (by decide)).2
        obtain ⟨v3, e3⟩ : ∃ v, w2.cell? ⟨g, i * 10 + 3, none⟩ = some v := Option.isSome_iff_exists.1 (ht 3 (by decide)).1
        have y3 : w2.frozen? ⟨g, i * 10 + 3, none⟩ = false := (ht 3 (by decide)).2
        obtain ⟨v4, e4⟩ : ∃ v, w2.cell? ⟨g, i * 10 + 4, none⟩ = some v := Option.isSome_iff_exists.1 (ht 4 (by decide)).1
        have y4 : w2.frozen? ⟨g, i * 10 + 4, none⟩ = false := (ht 4 (by decide)).2
        obtain ⟨v5, e5⟩ : ∃ v, w2.cell? ⟨g, i * 10 + 5, none⟩ = some v := Option.isSome_iff_exists.1 (ht 5 (by decide)).1
        have y5 : w2.frozen? ⟨g, i * 10 + 5, none⟩ = false := (ht 5 (by decide)).2
        obtain ⟨v6, e6⟩ : ∃ v, w2.cell? ⟨g, i * 10 + 6, none⟩ = some v := Option.isSome_iff_exists.1 (ht 6 (by decide)).1
        have y6 : w2.frozen? ⟨g, i * 10 + 6, none⟩ = false := (ht 6 (by decide)).2
        obtain ⟨v7, e7⟩ : ∃ v, w2.cell? ⟨g, i * 10 + 7, none⟩ = some v := Option.isSome_iff_exists.1 (ht 7 (by decide)).1
        have y7 : w2.frozen? ⟨g, i * 10 + 7, none⟩ = false := (ht 7 (by decide)).2
        obtain ⟨v8, e8⟩ : ∃ v, w2.cell? ⟨g, i * 10 + 8, none⟩ = some v := Option.isSome_iff_exists.1 (ht 8 (by decide)).1
        have y8 : w2.frozen? ⟨g, i * 10 + 8, none⟩ = false := (ht 8 (by decide)).2
        obtain ⟨v9, e9⟩ : ∃ v, w2.cell? ⟨g, i * 10 + 9, none⟩ = some v := Option.isSome_iff_exists.1 (ht 9 (by decide)).1
        have y9 : w2.frozen? ⟨g, i * 10 + 9, none⟩ = false := (ht 9 (by decide)).2
        clear hb2 hk3 HB2 HI f0 f1 f2 f3 f4 f5 f6 f7 f8 f9 ht
        go_wp2_with fail
        go_roundw
        case rel => exact ⟨i + 1, by omega, by go_num, HS⟩
        case measure => simp [intOf]; omega
      · have t1 : ¬ (i : Int) < (kd.len : Int) := by omega
        have hie : i = kd.len := by omega
        subst hie
        clear ih HKr t1
        have t1 : ¬ (kd.len : Int) < (kd.len : Int) := by omega
        obtain ⟨d0, d1, d2, d3, d4, d5, d6, d7, d8, d9, y0, y1, y2, y3, y4, y5, y6, y7, y8, y9⟩ := HR.out.loc.cells
        obtain ⟨f0, f1, f2, f3, f4, f5, f6, f7, f8, f9, z0, z1, z2, z3, z4, z5, z6, z7, z8, z9⟩ := HR.out.box.cells
        have lt3 := HR.out.box.lt
        have lt4 := HR.out.loc.lt
        go_wp2_with fail
        refine bodyPost_ret (v := .agg #[.int .i64 f.k, .int .i64 f.vk, .int .i64 f.vn, .string f.vs, .int .i64 f.r1, .int .i64 f.r2, .int .i64 f.r3, .int .i64 f.r4, .string f.op, .slice (some ⟨g, 0, none⟩) kd.len kd.len]) (by simp [results, Tryz.results30, go_sem, f0, f1, f2, f3, f4, f5, f6, f7, f8, f9]) rfl (CpIn.fin (V := wr.setCell ⟨w.heap.size, 9, none⟩ (.slice (some ⟨g, 0, none⟩) kd.len kd.len)) HR.out ((Kept.refl _ _).setCell _ _) ?_)
        repeat (first | with_reducible exact Kept.refl _ _ | with_reducible refine Kept.setCell ?_ _ _)
set_option maxRecDepth 100000 in
set_option maxHeartbeats 2000000 in
theorem cCopy (a : Nd) (A : Option Addr) (c : Nat) (w : World) (hsz : a.size ≤ 2000) (hsh : a.one.Short) (hK : KidsAt w (fun g => g < w.heap.size) a.kids A) : Calls Tryz.prog 14 #[.agg #[.int .i64 a.f.k, .int .i64 a.f.vk, .int .i64 a.f.vn, .string a.f.vs, .int .i64 a.f.r1, .int .i64 a.f.r2, .int .i64 a.f.r3, .int .i64 a.f.r4, .string a.f.op, .slice A a.kids.len c]] w (CpPost a w) := by
  have b1 : Below w.heap.size w ((w.alloc (.cells #[.int .i64 a.f.k, .int .i64 a.f.vk, .int .i64 a.f.vn, .string a.f.vs, .int .i64 a.f.r1, .int .i64 a.f.r2, .int .i64 a.f.r3, .int .i64 a.f.r4, .string a.f.op, .slice A a.kids.len c] 31)).alloc (.cells #[.int .i64 0, .int .i64 0, .int .i64 0, .string { data := #[] }, .int .i64 0, .int .i64 0, .int .i64 0, .int .i64 0, .string { data := #[] }, .slice none 0 0] 31)) := ((Below.refl _ _).alloc (Nat.le_refl _) _).alloc (by simp) _
  have L0 : NLoc (w.alloc (.cells #[.int .i64 a.f.k, .int .i64 a.f.vk, .int .i64 a.f.vn, .string a.f.vs, .int .i64 a.f.r1, .int .i64 a.f.r2, .int .i64 a.f.r3, .int .i64 a.f.r4, .string a.f.op, .slice A a.kids.len c] 31)) w.heap.size a.f A a.kids.len c := ⟨heap_alloc_new _ _⟩
  have L1 : NLoc ((w.alloc (.cells #[.int .i64 a.f.k, .int .i64 a.f.vk, .int .i64 a.f.vn, .string a.f.vs, .int .i64 a.f.r1, .int .i64 a.f.r2, .int .i64 a.f.r3, .int .i64 a.f.r4, .string a.f.op, .slice A a.kids.len c] 31)).alloc (.cells #[.int .i64 0, .int .i64 0, .int .i64 0, .string { data := #[] }, .int .i64 0, .int .i64 0, .int .i64 0, .int .i64 0, .string { data := #[] }, .slice none 0 0] 31)) w.heap.size a.f A a.kids.len c := L0.kept (Kept.alloc (Kept.refl (w.alloc (.cells #[.int .i64 a.f.k, .int .i64 a.f.vk, .int .i64 a.f.vn, .string a.f.vs, .int .i64 a.f.r1, .int .i64 a.f.r2, .int .i64 a.f.r3, .int .i64 a.f.r4, .string a.f.op, .slice A a.kids.len c] 31)).heap.size _) _) (Nat.ne_of_lt L0.lt)
  have X1 : NBox ((w.alloc (.cells #[.int .i64 a.f.k, .int .i64 a.f.vk, .int .i64 a.f.vn, .string a.f.vs, .int .i64 a.f.r1, .int .i64 a.f.r2, .int .i64 a.f.r3, .int .i64 a.f.r4, .string a.f.op, .slice A a.kids.len c] 31)).alloc (.cells #[.int .i64 0, .int .i64 0, .int .i64 0, .string { data := #[] }, .int .i64 0, .int .i64 0, .int .i64 0, .int .i64 0, .string { data := #[] }, .slice none 0 0] 31)) (w.heap.size + 1) := by
    have := NBox.new (w.alloc (.cells #[.int .i64 a.f.k, .int .i64 a.f.vk, .int .i64 a.f.vn, .string a.f.vs, .int .i64 a.f.r1, .int .i64 a.f.r2, .int .i64 a.f.r3, .int .i64 a.f.r4, .string a.f.op, .slice A a.kids.len c] 31))
    rwa [show (w.alloc (.cells #[.int .i64 a.f.k, .int .i64 a.f.vk, .int .i64 a.f.vn, .string a.f.vs, .int .i64 a.f.r1, .int .i64 a.f.r2, .int .i64 a.f.r3, .int .i64 a.f.r4, .string a.f.op, .slice A a.kids.len c] 31)).heap.size = w.heap.size + 1 by simp] at this
  have hs1 : ((w.alloc (.cells #[.int .i64 a.f.k, .int .i64 a.f.vk, .int .i64 a.f.vn, .string a.f.vs, .int .i64 a.f.r1, .int .i64 a.f.r2, .int .i64 a.f.r3, .int .i64 a.f.r4, .string a.f.op, .slice A a.kids.len c] 31)).alloc (.cells #[.int .i64 0, .int .i64 0, .int .i64 0, .string { data := #[] }, .int .i64 0, .int .i64 0, .int .i64 0, .int .i64 0, .string { data := #[] }, .slice none 0 0] 31)).heap.size = w.heap.size + 2 := by simp
  have hs2 : w.heap.size + 1 < ((w.alloc (.cells #[.int .i64 a.f.k, .int .i64 a.f.vk, .int .i64 a.f.vn, .string a.f.vs, .int .i64 a.f.r1, .int .i64 a.f.r2, .int .i64 a.f.r3, .int .i64 a.f.r4, .string a.f.op, .slice A a.kids.len c] 31)).alloc (.cells #[.int .i64 0, .int .i64 0, .int .i64 0, .string { data := #[] }, .int .i64 0, .int .i64 0, .int .i64 0, .int .i64 0, .string { data := #[] }, .slice none 0 0] 31)).heap.size := by omega
  have hs3 : w.heap.size + 2 ≤ ((w.alloc (.cells #[.int .i64 a.f.k, .int .i64 a.f.vk, .int .i64 a.f.vn, .string a.f.vs, .int .i64 a.f.r1, .int .i64 a.f.r2, .int .i64 a.f.r3, .int .i64 a.f.r4, .string a.f.op, .slice A a.kids.len c] 31)).alloc (.cells #[.int .i64 0, .int .i64 0, .int .i64 0, .string { data := #[] }, .int .i64 0, .int .i64 0, .int .i64 0, .int .i64 0, .string { data := #[] }, .slice none 0 0] 31)).heap.size := by omega
  have HK1 := Lib.hid (below_row hK b1)
  have HSH := Lib.hid hsh
  clear hs1 hK hsh L0
  obtain ⟨d0, d1, d2, d3, d4, d5, d6, d7, d8, d9, -⟩ := L1.cells
  go_enter Tryz.func14, Tryz.ntmps14
  go_wp2_with fail
  generalize ((w.alloc (.cells #[.int .i64 a.f.k, .int .i64 a.f.vk, .int .i64 a.f.vn, .string a.f.vs, .int .i64 a.f.r1, .int .i64 a.f.r2, .int .i64 a.f.r3, .int .i64 a.f.r4, .string a.f.op, .slice A a.kids.len c] 31)).alloc (.cells #[.int .i64 0, .int .i64 0, .int .i64 0, .string { data := #[] }, .int .i64 0, .int .i64 0, .int .i64 0, .int .i64 0, .string { data := #[] }, .slice none 0 0] 31)) = W1 at *
  refine (csmall a A c W1 (by omega) HK1.out).mono ?_
  rw [decide_eq_true hsz]; rintro e w2 ⟨rfl, hb2⟩
  have L2 := L1.kept (Kept.of (x := W1.heap.size) hb2) (Nat.ne_of_lt L1.lt)
  have X2 := X1.kept (Kept.of (x := W1.heap.size) hb2) (Nat.ne_of_lt X1.lt)
  have B2 := b1.trans (hb2.mono b1.size)
  have s2 := hb2.size
  have HK2 := Lib.hid (below_row HK1.out hb2)
  clear d0 d1 d2 d3 d4 d5 d6 d7 d8 d9 L1 X1 b1
  obtain ⟨d0, d1, d2, d3, d4, d5, d6, d7, d8, d9, y0, y1, y2, y3, y4, y5, y6, y7, y8, y9⟩ := L2.cells
  go_wp2_with fail
  refine (ccopied a.size a A c w2 (Nat.le_refl _) hsz HSH.out HK2.out).mono ?_
  rintro e w3 ⟨A3, c3, rfl, hb3, hk3⟩
  have X3 := X2.kept (Kept.of hb3) (Nat.ne_of_lt X2.lt)
  have B3 := B2.trans (hb3.mono B2.size)
  have l3 := X2.lt
  clear d0 d1 d2 d3 d4 d5 d6 d7 d8 d9 y0 y1 y2 y3 y4 y5 y6 y7 y8 y9 L2 X2 B2
  obtain ⟨f0, f1, f2, f3, f4, f5, f6, f7, f8, f9, z0, z1, z2, z3, z4, z5, z6, z7, z8, z9⟩ := X3.cells
  have fin : ∀ W, Kept (w.heap.size + 1) w3 W → CpPost a w (.returned (.agg #[.int .i64 a.f.k, .int .i64 a.f.vk, .int .i64 a.f.vn, .string a.f.vs, .int .i64 a.f.r1, .int .i64 a.f.r2, .int .i64 a.f.r3, .int .i64 a.f.r4, .string a.f.op, .slice A3 a.kids.len c3])) W := fun W hW =>
    ⟨A3, c3, rfl, B3.trans (hW.under (Nat.le_succ _) B3.size), hk3.keep hW (fun b hb hl => ⟨by omega, by omega⟩)⟩
  have FIN := Lib.hid fin
  clear fin hb2 hb3 hk3
  go_wp2_with fail
  refine bodyPost_ret (v := .agg #[.int .i64 a.f.k, .int .i64 a.f.vk, .int .i64 a.f.vn, .string a.f.vs, .int .i64 a.f.r1, .int .i64 a.f.r2, .int .i64 a.f.r3, .int .i64 a.f.r4, .string a.f.op, .slice A3 a.kids.len c3]) (by simp [results, Tryz.results14, go_sem, f0, f1, f2, f3, f4, f5, f6, f7, f8, f9]) rfl (FIN.out _ ?_)
  repeat (first | with_reducible exact Kept.refl _ _ | with_reducible refine Kept.setCell ?_ _ _)

end Go.Proofs.YtkdgiadpmfpjnaaGreatDoor.TreeC
