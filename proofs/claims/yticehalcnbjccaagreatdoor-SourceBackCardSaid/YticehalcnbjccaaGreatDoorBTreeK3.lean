/-
  Contract of the statements' helper that compares two trees, where they are alike.
-/
import Derived.Test.YticehalcnbjccaaGreatDoorBTreeT
import Derived.Test.YticehalcnbjccaaGreatDoorBLexF
import Derived.Test.YticehalcnbjccaaGreatDoorBAddrD
import Derived.Test.YticehalcnbjccaaGreatDoorBTreeV
import Derived.Test.YticehalcnbjccaaGreatDoorBTreeR3
import Derived.Test.YticehalcnbjccaaGreatDoorBPrintB
import Derived.Test.YticehalcnbjccaaGreatDoorBNumD
import Derived.Test.YticehalcnbjccaaGreatDoorBLexA
import Derived.Test.YticehalcnbjccaaGreatDoorBTreeP0
import Derived.Test.YticehalcnbjccaaGreatDoorBTreeP4
import Derived.Test.YticehalcnbjccaaGreatDoorBPrintO
import Derived.Deep.RegionWith
import Derived.Deep.RegionHeld3
import Derived.Deep.CutRange
import Derived.OwnWalk
import Derived.Deep.MidRow
namespace Go.Proofs.YticehalcnbjccaaGreatDoor.TreeC
set_option linter.unusedVariables false
open Go.RowKit Go.Proofs.YticehalcnbjccaaGreatDoor.NumC Go.Proofs.YticehalcnbjccaaGreatDoor.LexC
theorem Kept.drew1 {x : Nat} {a w : World} (h : Kept x a w) : Kept x a w.drew := h.drew 1
structure N2 (w : World) (b8 b9 : Nat) (f : Fld) (A A' : Option Addr) (n c c' : Nat) : Prop where
  l : NLoc w b8 f A n c
  r : NLoc w b9 f A' n c'
theorem two_blocks (w : World) (x y : Array Value) (t : TypeId) : ((w.alloc (.cells x t)).alloc (.cells y t)).drew.heap[w.heap.size]? = some (.cells x t (0, 0)) ∧ ((w.alloc (.cells x t)).alloc (.cells y t)).drew.heap[w.heap.size + 1]? = some (.cells y t (0, 0)) := by
  have h1 : (w.alloc (.cells x t)).heap.size = w.heap.size + 1 := heap_one _ _
  exact ⟨(heap_alloc_old (w.alloc (.cells x t)) (.cells y t) (by omega)).trans (heap_alloc_new w _), by rw [← h1]; exact heap_alloc_new (w.alloc (.cells x t)) _⟩
theorem below_drew1 {B : Nat} {a w : World} (h : Below B a w) : Below B a w.drew := ⟨h.os, h.tape, h.output, h.size, h.block⟩
theorem below_two {B : Nat} {a w : World} {o o' : Obj} (h : Below B a w) (hB : B ≤ w.heap.size) : Below B a ((w.alloc o).alloc o').drew := below_drew1 ((h.alloc hB o).alloc (by have := heap_one w o; omega) o')
structure C2 (w : World) (b8 b9 : Nat) (f : Fld) (A A' : Option Addr) (n c c' : Nat) : Prop where
  all : w.cell? ⟨b8, 0, none⟩ = some (.int .i64 f.k) ∧ w.cell? ⟨b8, 1, none⟩ = some (.int .i64 f.vk) ∧ w.cell? ⟨b8, 2, none⟩ = some (.int .i64 f.vn) ∧ w.cell? ⟨b8, 3, none⟩ = some (.string f.vs) ∧ w.cell? ⟨b8, 4, none⟩ = some (.int .i64 f.r1) ∧ w.cell? ⟨b8, 5, none⟩ = some (.int .i64 f.r2) ∧ w.cell? ⟨b8, 6, none⟩ = some (.int .i64 f.r3) ∧ w.cell? ⟨b8, 7, none⟩ = some (.int .i64 f.r4) ∧ w.cell? ⟨b8, 8, none⟩ = some (.string f.op) ∧ w.cell? ⟨b8, 9, none⟩ = some (.slice A n c) ∧ w.cell? ⟨b9, 0, none⟩ = some (.int .i64 f.k) ∧ w.cell? ⟨b9, 1, none⟩ = some (.int .i64 f.vk) ∧ w.cell? ⟨b9, 2, none⟩ = some (.int .i64 f.vn) ∧ w.cell? ⟨b9, 3, none⟩ = some (.string f.vs) ∧ w.cell? ⟨b9, 4, none⟩ = some (.int .i64 f.r1) ∧ w.cell? ⟨b9, 5, none⟩ = some (.int .i64 f.r2) ∧ w.cell? ⟨b9, 6, none⟩ = some (.int .i64 f.r3) ∧ w.cell? ⟨b9, 7, none⟩ = some (.int .i64 f.r4) ∧ w.cell? ⟨b9, 8, none⟩ = some (.string f.op) ∧ w.cell? ⟨b9, 9, none⟩ = some (.slice A' n c')
theorem cells_nine {W W' : World} {g b8 b9 : Nat} {x y : Value} (hg : W.grownBy W' (some g)) (h : W.cell? ⟨b8, 9, none⟩ = some x ∧ W.cell? ⟨b9, 9, none⟩ = some y) (n8 : b8 ≠ g) (n9 : b9 ≠ g) : W'.cell? ⟨b8, 9, none⟩ = some x ∧ W'.cell? ⟨b9, 9, none⟩ = some y :=
  ⟨(hg.cell_far ⟨b8, 9, none⟩ (World.block_lt_of_cell? W _ h.1) (by simpa using n8)).trans h.1, (hg.cell_far ⟨b9, 9, none⟩ (World.block_lt_of_cell? W _ h.2) (by simpa using n9)).trans h.2⟩
theorem kids_grown {W W' : World} {B g : Nat} {kd : Fo} {A : Option Addr} (h : KidsAt W (fun b => b < B) kd A) (hg : W.grownBy W' (some g)) (hB : B ≤ W.heap.size) (hgB : B ≤ g) : KidsAt W' (fun b => b < B) kd A := by
  rcases h with h | ⟨g', o, e, hr⟩
  · exact Or.inl h
  · exact Or.inr ⟨g', o, e, RowAt.same (fun b hb hl => ⟨hg.block b hl (fun e => by injection e with e; omega), hb⟩) _ _ _ hr⟩
theorem QS.drew1 {w : World} {B : Nat} {v : Value} {fo : Fo} (h : QS w B v fo) : QS w.drew B v fo := h.below ⟨rfl, rfl, rfl, Nat.le_refl _, fun _ _ => rfl⟩
theorem kids_drew {w : World} {P : Nat → Prop} {kd : Fo} {A : Option Addr} (h : KidsAt w P kd A) : KidsAt w.drew P kd A :=
  h.keep (y := w.heap.size) ((Kept.refl w.heap.size w).drew 1) (fun g hg hl => ⟨by omega, hg⟩)
end Go.Proofs.YticehalcnbjccaaGreatDoor.TreeC
namespace Go.Proofs.YticehalcnbjccaaGreatDoor.TreeC
set_option linter.unusedVariables false
open Go.RowKit Go.Proofs.YticehalcnbjccaaGreatDoor.NumC Go.Proofs.YticehalcnbjccaaGreatDoor.LexC
structure C2g (w : World) (b8 b9 : Nat) (f h : Fld) (A B : Option Addr) (n m c d : Nat) : Prop where
  all : w.cell? ⟨b8, 0, none⟩ = some (.int .i64 f.k) ∧ w.cell? ⟨b8, 1, none⟩ = some (.int .i64 f.vk) ∧ w.cell? ⟨b8, 2, none⟩ = some (.int .i64 f.vn) ∧ w.cell? ⟨b8, 3, none⟩ = some (.string f.vs) ∧ w.cell? ⟨b8, 4, none⟩ = some (.int .i64 f.r1) ∧ w.cell? ⟨b8, 5, none⟩ = some (.int .i64 f.r2) ∧ w.cell? ⟨b8, 6, none⟩ = some (.int .i64 f.r3) ∧ w.cell? ⟨b8, 7, none⟩ = some (.int .i64 f.r4) ∧ w.cell? ⟨b8, 8, none⟩ = some (.string f.op) ∧ w.cell? ⟨b8, 9, none⟩ = some (.slice A n c) ∧ w.cell? ⟨b9, 0, none⟩ = some (.int .i64 h.k) ∧ w.cell? ⟨b9, 1, none⟩ = some (.int .i64 h.vk) ∧ w.cell? ⟨b9, 2, none⟩ = some (.int .i64 h.vn) ∧ w.cell? ⟨b9, 3, none⟩ = some (.string h.vs) ∧ w.cell? ⟨b9, 4, none⟩ = some (.int .i64 h.r1) ∧ w.cell? ⟨b9, 5, none⟩ = some (.int .i64 h.r2) ∧ w.cell? ⟨b9, 6, none⟩ = some (.int .i64 h.r3) ∧ w.cell? ⟨b9, 7, none⟩ = some (.int .i64 h.r4) ∧ w.cell? ⟨b9, 8, none⟩ = some (.string h.op) ∧ w.cell? ⟨b9, 9, none⟩ = some (.slice B m d)
theorem C2g.kept {w w' : World} {b8 b9 y : Nat} {f h : Fld} {A B : Option Addr} {n m c d : Nat} (H : C2g w b8 b9 f h A B n m c d) (hk : Kept y w w') (h8 : b8 ≠ y) (h9 : b9 ≠ y) : C2g w' b8 b9 f h A B n m c d := by
  obtain ⟨d0, d1, d2, d3, d4, d5, d6, d7, d8, d9, e0, e1, e2, e3, e4, e5, e6, e7, e8, e9⟩ := H.all
  exact ⟨hk.cell h8 d0, hk.cell h8 d1, hk.cell h8 d2, hk.cell h8 d3, hk.cell h8 d4, hk.cell h8 d5, hk.cell h8 d6, hk.cell h8 d7, hk.cell h8 d8, hk.cell h8 d9, hk.cell h9 e0, hk.cell h9 e1, hk.cell h9 e2, hk.cell h9 e3, hk.cell h9 e4, hk.cell h9 e5, hk.cell h9 e6, hk.cell h9 e7, hk.cell h9 e8, hk.cell h9 e9⟩
theorem C2g.below {w w' : World} {b8 b9 : Nat} {f h : Fld} {A B : Option Addr} {n m c d : Nat} (H : C2g w b8 b9 f h A B n m c d) (hk : Below w.heap.size w w') : C2g w' b8 b9 f h A B n m c d := by
  obtain ⟨d0, d1, d2, d3, d4, d5, d6, d7, d8, d9, e0, e1, e2, e3, e4, e5, e6, e7, e8, e9⟩ := H.all
  exact ⟨cell_later hk d0, cell_later hk d1, cell_later hk d2, cell_later hk d3, cell_later hk d4, cell_later hk d5, cell_later hk d6, cell_later hk d7, cell_later hk d8, cell_later hk d9, cell_later hk e0, cell_later hk e1, cell_later hk e2, cell_later hk e3, cell_later hk e4, cell_later hk e5, cell_later hk e6, cell_later hk e7, cell_later hk e8, cell_later hk e9⟩
theorem C2g.of {w : World} {b8 b9 : Nat} {f h : Fld} {A B : Option Addr} {n m c d : Nat} (H8 : NLoc w b8 f A n c) (H9 : NLoc w b9 h B m d) : C2g w b8 b9 f h A B n m c d := by
  obtain ⟨d0, d1, d2, d3, d4, d5, d6, d7, d8, d9, -⟩ := H8.cells
  obtain ⟨e0, e1, e2, e3, e4, e5, e6, e7, e8, e9, -⟩ := H9.cells
  exact ⟨d0, d1, d2, d3, d4, d5, d6, d7, d8, d9, e0, e1, e2, e3, e4, e5, e6, e7, e8, e9⟩
structure Q2g (w : World) (gx gy o : Nat) (f h : Fld) (A B : Option Addr) (n m c d : Nat) : Prop where
  all : w.cell? ⟨gx, o, none⟩ = some (.int .i64 f.k) ∧ w.cell? ⟨gx, o + 1, none⟩ = some (.int .i64 f.vk) ∧ w.cell? ⟨gx, o + 2, none⟩ = some (.int .i64 f.vn) ∧ w.cell? ⟨gx, o + 3, none⟩ = some (.string f.vs) ∧ w.cell? ⟨gx, o + 4, none⟩ = some (.int .i64 f.r1) ∧ w.cell? ⟨gx, o + 5, none⟩ = some (.int .i64 f.r2) ∧ w.cell? ⟨gx, o + 6, none⟩ = some (.int .i64 f.r3) ∧ w.cell? ⟨gx, o + 7, none⟩ = some (.int .i64 f.r4) ∧ w.cell? ⟨gx, o + 8, none⟩ = some (.string f.op) ∧ w.cell? ⟨gx, o + 9, none⟩ = some (.slice A n c) ∧ w.cell? ⟨gy, o, none⟩ = some (.int .i64 h.k) ∧ w.cell? ⟨gy, o + 1, none⟩ = some (.int .i64 h.vk) ∧ w.cell? ⟨gy, o + 2, none⟩ = some (.int .i64 h.vn) ∧ w.cell? ⟨gy, o + 3, none⟩ = some (.string h.vs) ∧ w.cell? ⟨gy, o + 4, none⟩ = some (.int .i64 h.r1) ∧ w.cell? ⟨gy, o + 5, none⟩ = some (.int .i64 h.r2) ∧ w.cell? ⟨gy, o + 6, none⟩ = some (.int .i64 h.r3) ∧ w.cell? ⟨gy, o + 7, none⟩ = some (.int .i64 h.r4) ∧ w.cell? ⟨gy, o + 8, none⟩ = some (.string h.op) ∧ w.cell? ⟨gy, o + 9, none⟩ = some (.slice B m d)
theorem Q2g.below {w w' : World} {gx gy o : Nat} {f h : Fld} {A B : Option Addr} {n m c d : Nat} (H : Q2g w gx gy o f h A B n m c d) (hk : Below w.heap.size w w') : Q2g w' gx gy o f h A B n m c d := by
  obtain ⟨d0, d1, d2, d3, d4, d5, d6, d7, d8, d9, e0, e1, e2, e3, e4, e5, e6, e7, e8, e9⟩ := H.all
  exact ⟨cell_later hk d0, cell_later hk d1, cell_later hk d2, cell_later hk d3, cell_later hk d4, cell_later hk d5, cell_later hk d6, cell_later hk d7, cell_later hk d8, cell_later hk d9, cell_later hk e0, cell_later hk e1, cell_later hk e2, cell_later hk e3, cell_later hk e4, cell_later hk e5, cell_later hk e6, cell_later hk e7, cell_later hk e8, cell_later hk e9⟩
def KG (w wr : World) (a b : Nd) (k : Nat) (vx vy : Value) : Prop := ∃ x y : Fo, k ≤ x.len ∧ k ≤ y.len ∧ 0 < x.len ∧ 0 < y.len ∧ QS wr w.heap.size vx x ∧ QS wr w.heap.size vy y ∧ Below w.heap.size w wr ∧ vx.ownBlock ≠ vy.ownBlock ∧ k + (x.drop k).size = a.size ∧ k + (y.drop k).size = b.size ∧ (a = b ↔ x.drop k = y.drop k)
theorem KG.swap {w wr : World} {a b : Nd} {k : Nat} {vx vy : Value} (h : KG w wr a b k vx vy) : KG w wr b a k vy vx := by
  obtain ⟨x, y, h1, h2, h3, h4, h5, h6, h7, h8, h9, h10, h11⟩ := h
  exact ⟨y, x, h2, h1, h4, h3, h6, h5, h7, Ne.symm h8, h10, h9, by rw [eq_comm, h11, eq_comm]⟩
theorem Nd.one_inj (a b : Nd) : a = b ↔ a.one = b.one := by
  obtain ⟨f, x⟩ := a
  obtain ⟨h, y⟩ := b
  simp [Nd.one]
theorem KG.start {w wr : World} {gx gy c c' : Nat} {a b : Nd} {A A' : Option Addr} (hx : wr.heap[gx]? = some (.cells #[.int .i64 a.f.k, .int .i64 a.f.vk, .int .i64 a.f.vn, .string a.f.vs, .int .i64 a.f.r1, .int .i64 a.f.r2, .int .i64 a.f.r3, .int .i64 a.f.r4, .string a.f.op, .slice A a.kids.len c] 31 (0, 0))) (hy : wr.heap[gy]? = some (.cells #[.int .i64 b.f.k, .int .i64 b.f.vk, .int .i64 b.f.vn, .string b.f.vs, .int .i64 b.f.r1, .int .i64 b.f.r2, .int .i64 b.f.r3, .int .i64 b.f.r4, .string b.f.op, .slice A' b.kids.len c'] 31 (0, 0))) (hB : Below w.heap.size w wr) (h1 : w.heap.size ≤ gx) (h2 : w.heap.size ≤ gy) (hne : gx ≠ gy)
    (hA : KidsAt w (fun g => g < w.heap.size) a.kids A) (hA' : KidsAt w (fun g => g < w.heap.size) b.kids A') : KG w wr a b 0 (.slice (some ⟨gx, 0, none⟩) 1 1) (.slice (some ⟨gy, 0, none⟩) 1 1) :=
  ⟨a.one, b.one, Nat.zero_le _, Nat.zero_le _, by rw [Nd.one_len]; omega, by rw [Nd.one_len]; omega, QS.one (f := a.f) (kd := a.kids) hx h1 rfl (kids_below hA hB (Nat.le_refl _)), QS.one (f := b.f) (kd := b.kids) hy h2 rfl (kids_below hA' hB (Nat.le_refl _)), hB, by simp [Value.ownBlock, hne], by rw [Nat.zero_add, Fo.drop_zero, Nd.one_size], by rw [Nat.zero_add, Fo.drop_zero, Nd.one_size], by rw [Fo.drop_zero, Fo.drop_zero]; exact Nd.one_inj a b⟩
theorem KG.step {w wr w1 w2 : World} {a b : Nd} {k : Nat} {vx vy vx1 vy2 : Value} {x y kx ky : Fo} (hk : k < x.len) (hk2 : k < y.len) (hkx : (x.nth k).kids = kx) (hky : (y.nth k).kids = ky) (hf : (x.nth k).f = (y.nth k).f) (hl : kx.len = ky.len) (hX : QS wr w.heap.size vx x) (hY : QS wr w.heap.size vy y) (hB : Below w.heap.size w wr) (hne : vx.ownBlock ≠ vy.ownBlock)
    (hs : k + (x.drop k).size = a.size) (hs2 : k + (y.drop k).size = b.size) (he : a = b ↔ x.drop k = y.drop k)
    (q1 : QS w1 w.heap.size vx1 (x.app kx)) (g1 : wr.grownBy w1 vx.ownBlock) (a1 : vx1.ownBlock = vx.ownBlock ∨ vx1.ownBlock = some wr.heap.size)
    (q2 : QS w2 w.heap.size vy2 (y.app ky)) (g2 : w1.grownBy w2 vy.ownBlock) (a2 : vy2.ownBlock = vy.ownBlock ∨ vy2.ownBlock = some w1.heap.size) : KG w w2 a b (k + 1) vx1 vy2 := by
  subst hkx hky
  have hlx := hX.lt
  have hly := hY.lt
  have hl1 := q1.lt
  have B1 := below_grown hB hB.size g1 (fun k hk => (hlx k hk).1)
  have n1 : vx1.ownBlock ≠ vy.ownBlock := by
    rcases a1 with a1 | a1
    · rw [a1]; exact hne
    · rw [a1]; intro e; have := (hly _ e.symm).2; omega
  refine ⟨_, _, by rw [Fo.len_app]; omega, by rw [Fo.len_app]; omega, by rw [Fo.len_app]; omega, by rw [Fo.len_app]; omega, q1.grown g2 (fun k hk => (hly k hk).1) (Or.inr n1) B1.size, q2, below_grown B1 B1.size g2 (fun k hk => (hly k hk).1), ?_, Fo.queue_size x k _ hk hs, Fo.queue_size y k _ hk2 hs2, he.trans (Fo.two_step x y k hk hk2 hf hl)⟩
  rcases a2 with a2 | a2
  · rw [a2]; exact n1
  · rw [a2]; intro e; have := (hl1 _ e).2; omega
theorem neq_rectG (a b c d a' b' c' d' : Int) (W : World) : (binOp .neq 28 (.agg #[.int .i64 a, .int .i64 b, .int .i64 c, .int .i64 d]) (.agg #[.int .i64 a', .int .i64 b', .int .i64 c', .int .i64 d'])).run Tryz.prog W = .ok (.bool (!decide (a = a' ∧ b = b' ∧ c = c' ∧ d = d'))) W := by
  have h := eq_rect a b c d a' b' c' d' W
  rw [run_eql_struct] at h
  rw [run_neq_struct]
  cases hr : (Op.equalIn 10000 28 (.agg #[.int .i64 a, .int .i64 b, .int .i64 c, .int .i64 d]) (.agg #[.int .i64 a', .int .i64 b', .int .i64 c', .int .i64 d'])).run Tryz.prog W with
  | ok v w' =>
    rw [hr] at h
    simp only [Result.andThen, Result.ok.injEq, Value.bool.injEq] at h ⊢
    obtain ⟨h1, h2⟩ := h
    rw [h1]; simp [h2]
  | halt e w' => rw [hr] at h; cases h
theorem list_eq9 {a b : ByteArray} (h : a.toList = b.toList) : a = b := ByteArray.ext (Array.toList_inj.1 (by rw [Lib.toList_data, Lib.toList_data] at h; exact h))
theorem fld_eq {f h : Fld} (h1 : f.k = h.k) (h2 : ValueC.sameB ⟨f.vk, f.vn, f.vs⟩ ⟨h.vk, h.vn, h.vs⟩ = true) (h3 : f.r1 = h.r1 ∧ f.r2 = h.r2 ∧ f.r3 = h.r3 ∧ f.r4 = h.r4) (h4 : f.op = h.op) : f = h := by
  unfold ValueC.sameB at h2
  have h5 := of_decide_eq_true h2
  injection h5 with h6 h7 h8
  obtain ⟨a1, a2, a3, a4⟩ := h3
  cases f; cases h
  simp_all
set_option maxRecDepth 100000 in
set_option maxHeartbeats 4000000 in
theorem knodeG (a b : Nd) (A A' : Option Addr) (c c' : Nat) (w : World) (hs : a.size ≤ 300) (hsb : b.size ≤ 300) (hA : KidsAt w (fun g => g < w.heap.size) a.kids A) (hA' : KidsAt w (fun g => g < w.heap.size) b.kids A') :
    Calls Tryz.prog 14 #[.agg #[.int .i64 a.f.k, .int .i64 a.f.vk, .int .i64 a.f.vn, .string a.f.vs, .int .i64 a.f.r1, .int .i64 a.f.r2, .int .i64 a.f.r3, .int .i64 a.f.r4, .string a.f.op, .slice A a.kids.len c], .agg #[.int .i64 b.f.k, .int .i64 b.f.vk, .int .i64 b.f.vn, .string b.f.vs, .int .i64 b.f.r1, .int .i64 b.f.r2, .int .i64 b.f.r3, .int .i64 b.f.r4, .string b.f.op, .slice A' b.kids.len c']] w fun e w' => e = .returned (.bool (decide (a = b))) ∧ Below w.heap.size w w' := by
  have b1 : Below w.heap.size w (w.alloc (.cells #[.int .i64 a.f.k, .int .i64 a.f.vk, .int .i64 a.f.vn, .string a.f.vs, .int .i64 a.f.r1, .int .i64 a.f.r2, .int .i64 a.f.r3, .int .i64 a.f.r4, .string a.f.op, .slice A a.kids.len c] 31)) := (Below.refl _ _).alloc (Nat.le_refl _) _
  have b2 : Below w.heap.size w ((w.alloc (.cells #[.int .i64 a.f.k, .int .i64 a.f.vk, .int .i64 a.f.vn, .string a.f.vs, .int .i64 a.f.r1, .int .i64 a.f.r2, .int .i64 a.f.r3, .int .i64 a.f.r4, .string a.f.op, .slice A a.kids.len c] 31)).alloc (.cells #[.int .i64 b.f.k, .int .i64 b.f.vk, .int .i64 b.f.vn, .string b.f.vs, .int .i64 b.f.r1, .int .i64 b.f.r2, .int .i64 b.f.r3, .int .i64 b.f.r4, .string b.f.op, .slice A' b.kids.len c'] 31)) := b1.alloc b1.size _
  have z1 : (w.alloc (.cells #[.int .i64 a.f.k, .int .i64 a.f.vk, .int .i64 a.f.vn, .string a.f.vs, .int .i64 a.f.r1, .int .i64 a.f.r2, .int .i64 a.f.r3, .int .i64 a.f.r4, .string a.f.op, .slice A a.kids.len c] 31)).heap.size = w.heap.size + 1 := heap_one _ _
  have L1 : C2g ((w.alloc (.cells #[.int .i64 a.f.k, .int .i64 a.f.vk, .int .i64 a.f.vn, .string a.f.vs, .int .i64 a.f.r1, .int .i64 a.f.r2, .int .i64 a.f.r3, .int .i64 a.f.r4, .string a.f.op, .slice A a.kids.len c] 31)).alloc (.cells #[.int .i64 b.f.k, .int .i64 b.f.vk, .int .i64 b.f.vn, .string b.f.vs, .int .i64 b.f.r1, .int .i64 b.f.r2, .int .i64 b.f.r3, .int .i64 b.f.r4, .string b.f.op, .slice A' b.kids.len c'] 31)) w.heap.size (w.heap.size + 1) a.f b.f A A' a.kids.len b.kids.len c c' := C2g.of (NLoc.kept (y := w.heap.size + 5) ⟨heap_alloc_new _ _⟩ ((Kept.refl _ _).alloc _) (by omega)) ⟨by rw [← z1]; exact heap_alloc_new _ _⟩
  have HA := Lib.hid hA
  have HA' := Lib.hid hA'
  have HAw := Lib.hid (below_row hA b2)
  have HAw' := Lib.hid (below_row hA' b2)
  generalize hE : decide (a = b) = E
  have HE := Lib.hid hE.symm
  clear hA hA' b1 z1 hE
  go_enter Tryz.func14, Tryz.ntmps14
  go_wp2_with fail
  generalize ((w.alloc (.cells #[.int .i64 a.f.k, .int .i64 a.f.vk, .int .i64 a.f.vn, .string a.f.vs, .int .i64 a.f.r1, .int .i64 a.f.r2, .int .i64 a.f.r3, .int .i64 a.f.r4, .string a.f.op, .slice A a.kids.len c] 31)).alloc (.cells #[.int .i64 b.f.k, .int .i64 b.f.vk, .int .i64 b.f.vn, .string b.f.vs, .int .i64 b.f.r1, .int .i64 b.f.r2, .int .i64 b.f.r3, .int .i64 b.f.r4, .string b.f.op, .slice A' b.kids.len c'] 31)) = W1 at *
  refine (knodes 300 300 rfl (by decide) a A c W1 HAw.out).mono ?_; rintro e w2 ⟨r, rfl, hb2, hr1, hr2, hr3⟩
  have B2 : Below w.heap.size w w2 := b2.trans (hb2.mono b2.size)
  have L2 := L1.below hb2
  have HAv' := Lib.hid (below_row HAw'.out hb2)
  have t1 : ¬ (300 : Int) < (r : Int) := by have := hr1 hs; omega
  clear hr1 hr2 hr3 hb2 b2 L1 HAw HAw'
  obtain ⟨d0, d1, d2, d3, d4, d5, d6, d7, d8, d9, e0, e1, e2, e3, e4, e5, e6, e7, e8, e9⟩ := L2.all
  go_wp2_with fail
  refine (knodes 300 300 rfl (by decide) b A' c' w2 HAv'.out).mono ?_; rintro e w3 ⟨r', rfl, hb3, hr1, hr2, hr3⟩
  have B3 : Below w.heap.size w w3 := B2.trans (hb3.mono B2.size)
  have L3 := L2.below hb3
  have t2 : ¬ (300 : Int) < (r' : Int) := by have := hr1 hsb; omega
  clear hr1 hr2 hr3 hb3 B2 L2 HAv' d0 d1 d2 d3 d4 d5 d6 d7 d8 d9 e0 e1 e2 e3 e4 e5 e6 e7 e8 e9
  have hL := World.block_lt_of_cell? w3 _ L3.all.1
  have hR := World.block_lt_of_cell? w3 _ L3.all.2.2.2.2.2.2.2.2.2.2.1
  have HL3 := Lib.hid L3
  have S0 := Lib.hid (show C2g w3.drew w.heap.size (w.heap.size + 1) a.f b.f A A' a.kids.len b.kids.len c c' from ⟨L3.all⟩)
  clear L3
  go_wp2_with fail
  go_upto_region 3 with fail
  go_cut [5, 6] from 18 to 21 (fun s5 s6 wc => Hid (KG w wc a b 0 s5 s6))
  case first =>
    go_region_held3 (fun w' => w'.cell? ⟨w.heap.size, 0, none⟩ = some (.int .i64 a.f.k) ∧ w'.cell? ⟨w.heap.size, 1, none⟩ = some (.int .i64 a.f.vk) ∧ w'.cell? ⟨w.heap.size, 2, none⟩ = some (.int .i64 a.f.vn) ∧ w'.cell? ⟨w.heap.size, 3, none⟩ = some (.string a.f.vs) ∧ w'.cell? ⟨w.heap.size, 4, none⟩ = some (.int .i64 a.f.r1) ∧ w'.cell? ⟨w.heap.size, 5, none⟩ = some (.int .i64 a.f.r2) ∧ w'.cell? ⟨w.heap.size, 6, none⟩ = some (.int .i64 a.f.r3) ∧ w'.cell? ⟨w.heap.size, 7, none⟩ = some (.int .i64 a.f.r4) ∧ w'.cell? ⟨w.heap.size, 8, none⟩ = some (.string a.f.op) ∧ w'.cell? ⟨w.heap.size, 9, none⟩ = some (.slice A a.kids.len c) ∧ w'.cell? ⟨w.heap.size + 1, 0, none⟩ = some (.int .i64 b.f.k) ∧ w'.cell? ⟨w.heap.size + 1, 1, none⟩ = some (.int .i64 b.f.vk) ∧ w'.cell? ⟨w.heap.size + 1, 2, none⟩ = some (.int .i64 b.f.vn) ∧ w'.cell? ⟨w.heap.size + 1, 3, none⟩ = some (.string b.f.vs) ∧ w'.cell? ⟨w.heap.size + 1, 4, none⟩ = some (.int .i64 b.f.r1) ∧ w'.cell? ⟨w.heap.size + 1, 5, none⟩ = some (.int .i64 b.f.r2) ∧ w'.cell? ⟨w.heap.size + 1, 6, none⟩ = some (.int .i64 b.f.r3) ∧ w'.cell? ⟨w.heap.size + 1, 7, none⟩ = some (.int .i64 b.f.r4) ∧ w'.cell? ⟨w.heap.size + 1, 8, none⟩ = some (.string b.f.op) ∧ w'.cell? ⟨w.heap.size + 1, 9, none⟩ = some (.slice A' b.kids.len c')) (first | exact S0.out.all | (refine (HL3.out.kept (y := w.heap.size + 7) ?_ (by omega) (by omega)).all; (repeat (first | with_reducible exact Kept.refl _ _ | with_reducible refine Kept.setCell ?_ _ _ | with_reducible refine Kept.alloc ?_ _ | with_reducible refine Kept.drew ?_ _ | with_reducible refine Kept.drew1 ?_)); done)) (fail)
    all_goals (go_wp2_with fail)
    all_goals (go_meet)
    all_goals (first
      | exact Lib.hid (KG.start (two_blocks _ _ _ _).1 (two_blocks _ _ _ _).2 (below_two B3 B3.size) (by omega) (by omega) (by omega) HA.out HA'.out)
      | exact Lib.hid (KG.start (two_blocks _ _ _ _).2 (two_blocks _ _ _ _).1 (below_two B3 B3.size) (by omega) (by omega) (by omega) HA.out HA'.out))
  case rest =>
  have HKN := hcut
  clear S0 HL3 hL hR B3 HA HA'
  go_wp2_with fail
  go_loopw [5, 6, 7] (fun vx vy kv wr => ∃ k : Nat, k ≤ 300 ∧ kv = .int .i64 k ∧ Hid (KG w wr a b k vx vy)) (fun _ _ kv _ => 300 - (intOf kv).toNat)
  case atStart => exact ⟨0, by omega, rfl, HKN⟩
  case round =>
    clear HKN hcut
    obtain ⟨k, hk, rfl, HR⟩ := hrel
    obtain ⟨x, y, hkx, hky, hx0, hy0, hX, hY, hB, hne, hsx, hsy, hab⟩ := HR.out
    clear HR
    have hxl : x.len ≤ 300 := by
      have h1 := Fo.len_size (x.drop k)
      rw [Fo.len_drop] at h1
      omega
    have hyl : y.len ≤ 300 := by
      have h1 := Fo.len_size (y.drop k)
      rw [Fo.len_drop] at h1
      omega
    have HAB := Lib.hid hab
    clear hab
    by_cases hlt : k < x.len
    rotate_left
    · have hxe : x.len = k := by omega
      obtain ⟨AX, cX, rfl⟩ := hX.form
      obtain ⟨AY, cY, rfl⟩ := hY.form
      have HBW := Lib.hid hB
      have hdx : x.drop k = .nil := Fo.drop_len x k (by omega)
      by_cases hl2 : x.len = y.len
      · have HNE : Hid (E = true) := Lib.hid (HE.out.trans (decide_eq_true (HAB.out.2 (by rw [hdx, Fo.drop_len y k (by omega)]))))
        have q1 : ((x.len : Int) == (y.len : Int)) = true := by rw [hl2]; simp
        have q2 : (x.len == y.len) = true := by rw [hl2]; simp
        have hk2 : ¬ k < x.len := hlt
        have hl3 : y.len = k := by omega
        clear hX hY hB hne hsx hsy hdx hl2 hxe hl3
        go_wp2_with fail
        go_ret
        exact ⟨by rw [HNE.out]; first | rfl | (congr 2; simp; omega), HBW.out⟩
      · have HNE : Hid (E = false) := Lib.hid (HE.out.trans (decide_eq_false (fun e => by
          have h1 := HAB.out.1 e
          rw [hdx] at h1
          have h2 := congrArg Fo.len h1
          rw [Fo.len_drop] at h2
          simp only [Fo.len] at h2
          omega)))
        have q1 : ((x.len : Int) == (y.len : Int)) = false := beq_eq_false_iff_ne.2 (by omega)
        have q2 : (x.len == y.len) = false := beq_eq_false_iff_ne.2 hl2
        have hk2 : ¬ k < x.len := hlt
        clear hX hY hB hne hsx hsy hdx hl2 hxe
        go_wp2_with fail
        go_ret
        exact ⟨by rw [HNE.out]; first | rfl | (congr 2; simp; omega), HBW.out⟩
    · by_cases hlt2 : k < y.len
      rotate_left
      · obtain ⟨AX, cX, rfl⟩ := hX.form
        obtain ⟨AY, cY, rfl⟩ := hY.form
        have HBW := Lib.hid hB
        have hdy : y.drop k = .nil := Fo.drop_len y k (by omega)
        have HNE : Hid (E = false) := Lib.hid (HE.out.trans (decide_eq_false (fun e => by
          have h1 := HAB.out.1 e
          rw [hdy] at h1
          have h2 := congrArg Fo.len h1
          rw [Fo.len_drop] at h2
          simp only [Fo.len] at h2
          omega)))
        have hl2 : x.len ≠ y.len := by omega
        have q1 : ((x.len : Int) == (y.len : Int)) = false := beq_eq_false_iff_ne.2 (by omega)
        have q2 : (x.len == y.len) = false := beq_eq_false_iff_ne.2 hl2
        clear hX hY hB hne hsx hsy hdy hl2
        go_wp2_with fail
        go_ret
        exact ⟨by rw [HNE.out]; first | rfl | (congr 2; simp; omega), HBW.out⟩
      · obtain ⟨gx, cX, A2, c2, rfl, hgX0, hgx1, hkdx, f0, f1, f2, f3, f4, f5, f6, f7, f8, f9⟩ := hX.nth k hlt
        obtain ⟨gy, cY, A3, c3, rfl, hgY0, hgy1, hkdy, u0, u1, u2, u3, u4, u5, u6, u7, u8, u9⟩ := hY.nth k hlt2
        have Q0 : Q2g wr gx gy (k * 10) (x.nth k).f (y.nth k).f A2 A3 (x.nth k).kids.len (y.nth k).kids.len c2 c3 := ⟨f0, f1, f2, f3, f4, f5, f6, f7, f8, f9, u0, u1, u2, u3, u4, u5, u6, u7, u8, u9⟩
        have pnX : x.len + (x.nth k).kids.len ≤ 1000000 := by
          have h1 := Fo.size_drop x k hlt
          have h2 := Fo.len_size (x.nth k).kids
          omega
        have pnY : y.len + (y.nth k).kids.len ≤ 1000000 := by
          have h1 := Fo.size_drop y k hlt2
          have h2 := Fo.len_size (y.nth k).kids
          omega
        have neY : Value.ownBlock (.slice (some ⟨gx, 0, none⟩) x.len cX) ≠ Value.ownBlock (.slice (some ⟨gy, 0, none⟩) y.len cY) := hne
        have neX : Value.ownBlock (.slice (some ⟨gy, 0, none⟩) y.len cY) ≠ Value.ownBlock (.slice (some ⟨gx, 0, none⟩) x.len cX) := Ne.symm hne
        have HST := Lib.hid (show QS wr w.heap.size (.slice (some ⟨gx, 0, none⟩) x.len cX) x ∧ QS wr w.heap.size (.slice (some ⟨gy, 0, none⟩) y.len cY) y ∧ Below w.heap.size w wr ∧ k + (x.drop k).size = a.size ∧ k + (y.drop k).size = b.size from ⟨hX, hY, hB, hsx, hsy⟩)
        have HKX0 := Lib.hid hkdx
        have HKY0 := Lib.hid hkdy
        have HQ0 := Lib.hid Q0
        have HQd := Lib.hid (show Q2g wr.drew gx gy (k * 10) (x.nth k).f (y.nth k).f A2 A3 (x.nth k).kids.len (y.nth k).kids.len c2 c3 from ⟨Q0.all⟩)
        have HNQ := Lib.hid (fun h => Fo.two_ne x y k hlt hlt2 h)
        have k0 : (0 : Int) ≤ (k : Int) := Int.natCast_nonneg _
        have k1 : (k : Int) < (x.len : Int) := by omega
        have k2 : (k : Int) < (y.len : Int) := by omega
        clear hX hY hB hne hsx hsy hkdx hkdy Q0 f0 f1 f2 f3 f4 f5 f6 f7 f8 f9 u0 u1 u2 u3 u4 u5 u6 u7 u8 u9
        generalize hfx : (x.nth k).f = f at *
        generalize hfy : (y.nth k).f = h at *
        generalize hkdx : (x.nth k).kids = kx at *
        generalize hkdy : (y.nth k).kids = ky at *
        have HFX := Lib.hid hfx
        have HFY := Lib.hid hfy
        have HDX := Lib.hid hkdx
        have HDY := Lib.hid hkdy
        clear hfx hfy hkdx hkdy
        go_wp2_with fail
        go_upto_region 7 with fail
        go_cut [8, 9] from 34 to 41 (fun s8 s9 wc => ∃ b8 b9, s8 = .pointer (some ⟨b8, 0, none⟩) ∧ s9 = .pointer (some ⟨b9, 0, none⟩) ∧ Hid (wr.heap.size ≤ b8 ∧ wr.heap.size ≤ b9 ∧ C2g wc b8 b9 f h A2 A3 kx.len ky.len c2 c3 ∧ Below wr.heap.size wr wc))
        case first =>
          go_region_held3 (fun w' => w'.cell? ⟨gx, k * 10, none⟩ = some (.int .i64 f.k) ∧ w'.cell? ⟨gx, k * 10 + 1, none⟩ = some (.int .i64 f.vk) ∧ w'.cell? ⟨gx, k * 10 + 2, none⟩ = some (.int .i64 f.vn) ∧ w'.cell? ⟨gx, k * 10 + 3, none⟩ = some (.string f.vs) ∧ w'.cell? ⟨gx, k * 10 + 4, none⟩ = some (.int .i64 f.r1) ∧ w'.cell? ⟨gx, k * 10 + 5, none⟩ = some (.int .i64 f.r2) ∧ w'.cell? ⟨gx, k * 10 + 6, none⟩ = some (.int .i64 f.r3) ∧ w'.cell? ⟨gx, k * 10 + 7, none⟩ = some (.int .i64 f.r4) ∧ w'.cell? ⟨gx, k * 10 + 8, none⟩ = some (.string f.op) ∧ w'.cell? ⟨gx, k * 10 + 9, none⟩ = some (.slice A2 kx.len c2) ∧ w'.cell? ⟨gy, k * 10, none⟩ = some (.int .i64 h.k) ∧ w'.cell? ⟨gy, k * 10 + 1, none⟩ = some (.int .i64 h.vk) ∧ w'.cell? ⟨gy, k * 10 + 2, none⟩ = some (.int .i64 h.vn) ∧ w'.cell? ⟨gy, k * 10 + 3, none⟩ = some (.string h.vs) ∧ w'.cell? ⟨gy, k * 10 + 4, none⟩ = some (.int .i64 h.r1) ∧ w'.cell? ⟨gy, k * 10 + 5, none⟩ = some (.int .i64 h.r2) ∧ w'.cell? ⟨gy, k * 10 + 6, none⟩ = some (.int .i64 h.r3) ∧ w'.cell? ⟨gy, k * 10 + 7, none⟩ = some (.int .i64 h.r4) ∧ w'.cell? ⟨gy, k * 10 + 8, none⟩ = some (.string h.op) ∧ w'.cell? ⟨gy, k * 10 + 9, none⟩ = some (.slice A3 ky.len c3)) (first | exact HQd.out.all | (refine (HQ0.out.below ?_).all; (repeat (first | with_reducible exact Below.refl _ _ | with_reducible refine below_drew1 ?_ | with_reducible refine Below.alloc ?_ (by simp) _ | with_reducible refine Below.setCell ?_ (by simp) _)); done)) (fail)
          all_goals (go_wp2_with fail)
          all_goals (go_meet)
          all_goals (refine ⟨_, _, rfl, rfl, Lib.hid ⟨?_, ?_, ⟨⟨?_, ?_, ?_, ?_, ?_, ?_, ?_, ?_, ?_, ?_, ?_, ?_, ?_, ?_, ?_, ?_, ?_, ?_, ?_, ?_⟩⟩, ?_⟩⟩)
          all_goals (first | omega | exact below_two (Below.refl _ _) (Nat.le_refl _) | (simp [go_sem]; done) | (repeat (first | with_reducible exact Below.refl _ _ | with_reducible refine below_drew1 ?_ | with_reducible refine Below.alloc ?_ (by simp) _ | with_reducible refine Below.setCell ?_ (by simp) _); done))
        case rest =>
        obtain ⟨b8, b9, rfl, rfl, hcut2⟩ := hcut
        obtain ⟨hb8, hb9, HC2, hB7⟩ := hcut2.out
        clear hcut2 HQ0 HQd
        obtain ⟨d0, d1, d2, d3, d4, d5, d6, d7, d8, d9, e0, e1, e2, e3, e4, e5, e6, e7, e8, e9⟩ := HC2.all
        have HB7 := Lib.hid hB7
        have HCC := Lib.hid HC2
        have hl8 := World.block_lt_of_cell? wc _ d0
        have hl9 := World.block_lt_of_cell? wc _ e0
        have HBW : Hid (Below w.heap.size w wc) := Lib.hid (HST.out.2.2.1.trans (hB7.mono HST.out.2.2.1.size))
        clear hB7 HC2
        by_cases hk1 : f.k = h.k
        rotate_left
        · have q0 : (f.k != h.k) = true := by simp [hk1]
          have HNE : Hid (E = false) := Lib.hid (HE.out.trans (decide_eq_false (fun e => HNQ.out (fun hh => hk1 (by rw [hh.1])) (HAB.out.1 e))))
          go_wp2_with fail
          go_ret
          exact ⟨by rw [HNE.out]; rfl, HBW.out⟩
        · have q0 : (f.k != h.k) = false := by simp [hk1]
          have HK1 := Lib.hid hk1
          clear hk1
          go_wp2_with fail
          refine (ValueC.keepValue_of f.vk f.vn h.vk h.vn f.vs h.vs wc).mono ?_
          generalize hsame : ValueC.sameB ⟨f.vk, f.vn, f.vs⟩ ⟨h.vk, h.vn, h.vs⟩ = sm
          have HSM := Lib.hid hsame
          clear hsame
          rintro e w5 ⟨rfl, hb5⟩
          clear d0 d1 d2 d3 d4 d5 d6 d7 d8 d9 e0 e1 e2 e3 e4 e5 e6 e7 e8 e9
          have HC5 := HCC.out.below hb5
          obtain ⟨d0, d1, d2, d3, d4, d5, d6, d7, d8, d9, e0, e1, e2, e3, e4, e5, e6, e7, e8, e9⟩ := HC5.all
          have hB5 : Below wr.heap.size wr w5 := HB7.out.trans (hb5.mono HB7.out.size)
          have HQX := Lib.hid (HST.out.1.below hB5).drew1
          have HQY := Lib.hid (HST.out.2.1.below hB5).drew1
          have B5 : Below w.heap.size w w5 := HST.out.2.2.1.trans (hB5.mono HST.out.2.2.1.size)
          have HKX := Lib.hid (kids_drew (kids_below HKX0.out (hB5.mono HST.out.2.2.1.size) HST.out.2.2.1.size))
          have HKY := Lib.hid (kids_drew (kids_below HKY0.out (hB5.mono HST.out.2.2.1.size) HST.out.2.2.1.size))
          have hl5 : wr.heap.size ≤ w5.heap.size := hB5.size
          have hBs : w.heap.size ≤ w5.drew.heap.size := B5.size
          have HBW2 := Lib.hid B5
          have HBD : Hid (Below w.heap.size w w5.drew) := Lib.hid (below_drew1 B5)
          clear HBW
          have HBW := HBW2
          have hl58 : b8 < w5.heap.size := Nat.lt_of_lt_of_le hl8 hb5.size
          have hl59 : b9 < w5.heap.size := Nat.lt_of_lt_of_le hl9 hb5.size
          clear HC5 HCC hb5 B5 hB5 HB7 HKX0 HKY0 hl8 hl9 HBW2
          cases sm with
          | false =>
            have HNE : Hid (E = false) := Lib.hid (HE.out.trans (decide_eq_false (fun e => HNQ.out (fun hh => by have h1 := HSM.out; rw [hh.1] at h1; simp [ValueC.sameB] at h1) (HAB.out.1 e))))
            go_wp2_with fail
            go_ret
            exact ⟨by rw [HNE.out]; rfl, HBW.out⟩
          | true =>
            by_cases hR : f.r1 = h.r1 ∧ f.r2 = h.r2 ∧ f.r3 = h.r3 ∧ f.r4 = h.r4
            rotate_left
            · have eR : ∀ W, (binOp .neq 28 (.agg #[.int .i64 f.r1, .int .i64 f.r2, .int .i64 f.r3, .int .i64 f.r4]) (.agg #[.int .i64 h.r1, .int .i64 h.r2, .int .i64 h.r3, .int .i64 h.r4])).run Tryz.prog W = .ok (.bool true) W := fun W => by rw [neq_rectG, decide_eq_false hR]; rfl
              have HNE : Hid (E = false) := Lib.hid (HE.out.trans (decide_eq_false (fun e => HNQ.out (fun hh => hR (by rw [hh.1]; exact ⟨rfl, rfl, rfl, rfl⟩)) (HAB.out.1 e))))
              clear hR
              go_wp2_with fail
              go_ret
              exact ⟨by rw [HNE.out]; rfl, HBW.out⟩
            · have eR : ∀ W, (binOp .neq 28 (.agg #[.int .i64 f.r1, .int .i64 f.r2, .int .i64 f.r3, .int .i64 f.r4]) (.agg #[.int .i64 h.r1, .int .i64 h.r2, .int .i64 h.r3, .int .i64 h.r4])).run Tryz.prog W = .ok (.bool false) W := fun W => by rw [neq_rectG, decide_eq_true hR]; rfl
              have HRR := Lib.hid hR
              clear hR
              by_cases hop : f.op = h.op
              rotate_left
              · have q3n : ¬ f.op.toList = h.op.toList := fun e => hop (list_eq9 e)
                have q3 : (f.op.toList != h.op.toList) = true := by rw [bne, beq_eq_false_iff_ne.2 (fun e => hop (list_eq9 e))]; rfl
                have HNE : Hid (E = false) := Lib.hid (HE.out.trans (decide_eq_false (fun e => HNQ.out (fun hh => hop (by rw [hh.1])) (HAB.out.1 e))))
                clear hop
                go_wp2_with fail
                go_ret
                exact ⟨by rw [HNE.out]; rfl, HBW.out⟩
              · have q3 : (f.op.toList != h.op.toList) = false := by rw [hop]; simp
                have q3p : f.op.toList = h.op.toList := by rw [hop]
                have HOP := Lib.hid hop
                clear hop
                by_cases hln : kx.len = ky.len
                rotate_left
                · have q4 : ((kx.len : Int) != (ky.len : Int)) = true := by rw [bne, beq_eq_false_iff_ne.2 (by omega)]; rfl
                  have q5 : (kx.len != ky.len) = true := by rw [bne, beq_eq_false_iff_ne.2 hln]; rfl
                  have HNE : Hid (E = false) := Lib.hid (HE.out.trans (decide_eq_false (fun e => HNQ.out (fun hh => hln hh.2) (HAB.out.1 e))))
                  clear hln
                  go_wp2_with fail
                  go_ret
                  exact ⟨by rw [HNE.out]; rfl, HBW.out⟩
                · have q4 : ((kx.len : Int) != (ky.len : Int)) = false := by rw [hln]; simp
                  have q5 : (kx.len != ky.len) = false := by rw [hln]; simp
                  have HLN := Lib.hid hln
                  have HFF : Hid (f = h) := Lib.hid (fld_eq HK1.out HSM.out HRR.out HOP.out)
                  clear hln
                  go_wp2_with fail
                  have HD5 := Lib.hid (show w5.drew.cell? ⟨b8, 9, none⟩ = some (.slice A2 kx.len c2) ∧ w5.drew.cell? ⟨b9, 9, none⟩ = some (.slice A3 ky.len c3) from ⟨d9, e9⟩)
                  clear d0 d1 d2 d3 d4 d5 d6 d7 d8 d9 e0 e1 e2 e3 e4 e5 e6 e7 e8 e9 eR q0 q3 q3p q4 q5
                  have n8X : b8 ≠ gx := by omega
                  have n9X : b9 ≠ gx := by omega
                  have n8Y : b8 ≠ gy := by omega
                  have n9Y : b9 ≠ gy := by omega
                  go_upto_region 10 with fail
                  go_region_held3 (fun w' => w'.cell? ⟨b8, 9, none⟩ = some (.slice A2 kx.len c2) ∧ w'.cell? ⟨b9, 9, none⟩ = some (.slice A3 ky.len c3))
                    (first | with_reducible exact HD5.out | with_reducible exact DX | with_reducible exact DY)
                    (first
                      | (refine step_append_queue _ (by rfl) (.tmp 78) (.tmp 80) (by rfl) (B := w.heap.size) (v := .slice (some ⟨gx, 0, none⟩) x.len cX) (c := c2) (fo := x) (kd := kx) (A := A2) (by rfl) (by rfl) (by first | exact HQX.out | exact HQXo.out) (by first | exact HKX.out | exact HKXo.out) pnX (by first | with_reducible exact hBs | with_reducible exact hBY) ?_
                         intro vX wX qX gX aX
                         first
                           | (have DX := cells_nine gX HD5.out n8X n9X
                              have hBX := Nat.le_trans hBs gX.size
                              have HQYo := Lib.hid (HQY.out.grown gX (fun k hk => (HQX.out.lt k hk).1) (Or.inr neX) hBs)
                              have HKYo := Lib.hid (kids_grown HKY.out gX hBs hgX0))
                           | have DX := cells_nine gX DY n8X n9X)
                      | (refine step_append_queue _ (by rfl) (.tmp 82) (.tmp 84) (by rfl) (B := w.heap.size) (v := .slice (some ⟨gy, 0, none⟩) y.len cY) (c := c3) (fo := y) (kd := ky) (A := A3) (by rfl) (by rfl) (by first | exact HQY.out | exact HQYo.out) (by first | exact HKY.out | exact HKYo.out) pnY (by first | with_reducible exact hBs | with_reducible exact hBX) ?_
                         intro vY wY qY gY aY
                         first
                           | (have DY := cells_nine gY HD5.out n8Y n9Y
                              have hBY := Nat.le_trans hBs gY.size
                              have HQXo := Lib.hid (HQX.out.grown gY (fun k hk => (HQY.out.lt k hk).1) (Or.inr neY) hBs)
                              have HKXo := Lib.hid (kids_grown HKX.out gY hBs hgY0))
                           | have DY := cells_nine gY DX n8Y n9Y))
                  all_goals (go_wp2_with fail)
                  all_goals go_roundw
                  all_goals (first
                    | exact ⟨k + 1, by omega, by go_num, Lib.hid (KG.step hlt hlt2 HDX.out HDY.out (HFX.out.trans (HFF.out.trans HFY.out.symm)) HLN.out HQX.out HQY.out HBD.out neY HST.out.2.2.2.1 HST.out.2.2.2.2 HAB.out qX gX aX qY gY aY)⟩
                    | exact ⟨k + 1, by omega, by go_num, Lib.hid (KG.swap (KG.step hlt2 hlt HDY.out HDX.out (HFY.out.trans (HFF.out.symm.trans HFX.out.symm)) HLN.out.symm HQY.out HQX.out HBD.out neX HST.out.2.2.2.2 HST.out.2.2.2.1 (by rw [eq_comm, HAB.out, eq_comm]) qY gY aY qX gX aX))⟩
                    | (simp [intOf]; omega))
end Go.Proofs.YticehalcnbjccaaGreatDoor.TreeC
namespace Go.Proofs.YticehalcnbjccaaGreatDoor.TreeC
set_option linter.unusedVariables false
open Go.RowKit Go.Proofs.YticehalcnbjccaaGreatDoor.NumC Go.Proofs.YticehalcnbjccaaGreatDoor.LexC
theorem kept_drew1 {x : Nat} {a w : World} (h : Kept x a w) : Kept x a w.drew := h.drew 1
end Go.Proofs.YticehalcnbjccaaGreatDoor.TreeC
namespace Go.Proofs.YticehalcnbjccaaGreatDoor.PrintC
set_option linter.unusedVariables false
open Go.RowKit Go.Proofs.YticehalcnbjccaaGreatDoor.NumC Go.Proofs.YticehalcnbjccaaGreatDoor.LexC Go.Proofs.YticehalcnbjccaaGreatDoor.TreeC
theorem knode_self (a : Nd) (A B : Option Addr) (c d : Nat) (w : World) (ha : a.size ≤ 300) (hA : KidsAt w (fun g => g < w.heap.size) a.kids A) (hB : KidsAt w (fun g => g < w.heap.size) a.kids B) :
    Calls Tryz.prog 14 #[.agg #[.int .i64 a.f.k, .int .i64 a.f.vk, .int .i64 a.f.vn, .string a.f.vs, .int .i64 a.f.r1, .int .i64 a.f.r2, .int .i64 a.f.r3, .int .i64 a.f.r4, .string a.f.op, .slice A a.kids.len c], .agg #[.int .i64 a.f.k, .int .i64 a.f.vk, .int .i64 a.f.vn, .string a.f.vs, .int .i64 a.f.r1, .int .i64 a.f.r2, .int .i64 a.f.r3, .int .i64 a.f.r4, .string a.f.op, .slice B a.kids.len d]] w fun e w' => e = .returned (.bool true) ∧ Below w.heap.size w w' := by
  have := knodeG a a A B c d w ha ha hA hB
  rwa [show decide (a = a) = true from decide_eq_true rfl] at this
end Go.Proofs.YticehalcnbjccaaGreatDoor.PrintC
