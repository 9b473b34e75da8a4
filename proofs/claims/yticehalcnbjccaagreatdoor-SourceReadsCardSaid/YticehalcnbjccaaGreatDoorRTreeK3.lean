/-
  Contract of the statements' helper that compares two trees, where they are alike.
-/
import Derived.Test.YticehalcnbjccaaGreatDoorRTreeP8
import Derived.Test.YticehalcnbjccaaGreatDoorRTreeG
import Derived.Test.YticehalcnbjccaaGreatDoorRAddrD
import Derived.Test.YticehalcnbjccaaGreatDoorRTreeV
import Derived.Test.YticehalcnbjccaaGreatDoorRTreeR3
import Derived.Deep.RegionHeld3
import Derived.Deep.CutRange
namespace Go.Proofs.YticehalcnbjccaaGreatDoor.TreeC
set_option maxRecDepth 100000
set_option maxHeartbeats 8000000
set_option linter.unusedVariables false
open Go.RowKit NumC LexC
open Cd
open Tryz
open Lib (hid)
theorem Kept.drew1 {x : Nat} {a w : World} (h : Kept x a w) : Kept x a w.drew := h.drew 1
structure N2 (w : World) (b8 b9 : Nat) (f : Fld) (A A' : Option Addr) (n c c' : Nat) : Prop where
 l : NLoc w b8 f A n c
 r : NLoc w b9 f A' n c'
theorem N2.kept {w w' : World} {b8 b9 y : Nat} {f : Fld} {A A' : Option Addr} {n c c' : Nat} (h : N2 w b8 b9 f A A' n c c') (hk : Kept y w w') (h8 : b8 ≠ y) (h9 : b9 ≠ y) : N2 w' b8 b9 f A A' n c c' := ⟨h.l.kept hk h8, h.r.kept hk h9⟩
theorem N2.all {w : World} {b8 b9 : Nat} {f : Fld} {A A' : Option Addr} {n c c' : Nat} (h : N2 w b8 b9 f A A' n c c') : w.cell? ⟨b8, 0, none⟩ = some (.int .i64 f.k) ∧ w.cell? ⟨b8, 1, none⟩ = some (.int .i64 f.vk) ∧ w.cell? ⟨b8, 2, none⟩ = some (.int .i64 f.vn) ∧ w.cell? ⟨b8, 3, none⟩ = some (.string f.vs) ∧ w.cell? ⟨b8, 4, none⟩ = some (.int .i64 f.r1) ∧ w.cell? ⟨b8, 5, none⟩ = some (.int .i64 f.r2) ∧ w.cell? ⟨b8, 6, none⟩ = some (.int .i64 f.r3) ∧ w.cell? ⟨b8, 7, none⟩ = some (.int .i64 f.r4) ∧ w.cell? ⟨b8, 8, none⟩ = some (.string f.op) ∧ w.cell? ⟨b8, 9, none⟩ = some (.slice A n c) ∧ w.cell? ⟨b9, 0, none⟩ = some (.int .i64 f.k) ∧ w.cell? ⟨b9, 1, none⟩ = some (.int .i64 f.vk) ∧ w.cell? ⟨b9, 2, none⟩ = some (.int .i64 f.vn) ∧ w.cell? ⟨b9, 3, none⟩ = some (.string f.vs) ∧ w.cell? ⟨b9, 4, none⟩ = some (.int .i64 f.r1) ∧ w.cell? ⟨b9, 5, none⟩ = some (.int .i64 f.r2) ∧ w.cell? ⟨b9, 6, none⟩ = some (.int .i64 f.r3) ∧ w.cell? ⟨b9, 7, none⟩ = some (.int .i64 f.r4) ∧ w.cell? ⟨b9, 8, none⟩ = some (.string f.op) ∧ w.cell? ⟨b9, 9, none⟩ = some (.slice A' n c') := by
 obtain ⟨d0, d1, d2, d3, d4, d5, d6, d7, d8, d9, -⟩ := h.l.cells
 obtain ⟨e0, e1, e2, e3, e4, e5, e6, e7, e8, e9, -⟩ := h.r.cells
 exact ⟨d0, d1, d2, d3, d4, d5, d6, d7, d8, d9, e0, e1, e2, e3, e4, e5, e6, e7, e8, e9⟩
structure Q2 (w : World) (gx gy o : Nat) (f : Fld) (A A' : Option Addr) (n c c' : Nat) : Prop where
 l : w.cell? ⟨gx, o, none⟩ = some (.int .i64 f.k) ∧ w.cell? ⟨gx, o + 1, none⟩ = some (.int .i64 f.vk) ∧ w.cell? ⟨gx, o + 2, none⟩ = some (.int .i64 f.vn) ∧ w.cell? ⟨gx, o + 3, none⟩ = some (.string f.vs) ∧ w.cell? ⟨gx, o + 4, none⟩ = some (.int .i64 f.r1) ∧ w.cell? ⟨gx, o + 5, none⟩ = some (.int .i64 f.r2) ∧ w.cell? ⟨gx, o + 6, none⟩ = some (.int .i64 f.r3) ∧ w.cell? ⟨gx, o + 7, none⟩ = some (.int .i64 f.r4) ∧ w.cell? ⟨gx, o + 8, none⟩ = some (.string f.op) ∧ w.cell? ⟨gx, o + 9, none⟩ = some (.slice A n c)
 r : w.cell? ⟨gy, o, none⟩ = some (.int .i64 f.k) ∧ w.cell? ⟨gy, o + 1, none⟩ = some (.int .i64 f.vk) ∧ w.cell? ⟨gy, o + 2, none⟩ = some (.int .i64 f.vn) ∧ w.cell? ⟨gy, o + 3, none⟩ = some (.string f.vs) ∧ w.cell? ⟨gy, o + 4, none⟩ = some (.int .i64 f.r1) ∧ w.cell? ⟨gy, o + 5, none⟩ = some (.int .i64 f.r2) ∧ w.cell? ⟨gy, o + 6, none⟩ = some (.int .i64 f.r3) ∧ w.cell? ⟨gy, o + 7, none⟩ = some (.int .i64 f.r4) ∧ w.cell? ⟨gy, o + 8, none⟩ = some (.string f.op) ∧ w.cell? ⟨gy, o + 9, none⟩ = some (.slice A' n c')
theorem Q2.kept {w w' : World} {gx gy o y : Nat} {f : Fld} {A A' : Option Addr} {n c c' : Nat} (h : Q2 w gx gy o f A A' n c c') (hk : Kept y w w') (h8 : gx ≠ y) (h9 : gy ≠ y) : Q2 w' gx gy o f A A' n c c' := by
 obtain ⟨⟨d0, d1, d2, d3, d4, d5, d6, d7, d8, d9⟩, e0, e1, e2, e3, e4, e5, e6, e7, e8, e9⟩ := h
 exact ⟨⟨hk.cell h8 d0, hk.cell h8 d1, hk.cell h8 d2, hk.cell h8 d3, hk.cell h8 d4, hk.cell h8 d5, hk.cell h8 d6, hk.cell h8 d7, hk.cell h8 d8, hk.cell h8 d9⟩, hk.cell h9 e0, hk.cell h9 e1, hk.cell h9 e2, hk.cell h9 e3, hk.cell h9 e4, hk.cell h9 e5, hk.cell h9 e6, hk.cell h9 e7, hk.cell h9 e8, hk.cell h9 e9⟩
theorem Q2.all {w : World} {gx gy o : Nat} {f : Fld} {A A' : Option Addr} {n c c' : Nat} (h : Q2 w gx gy o f A A' n c c') : w.cell? ⟨gx, o, none⟩ = some (.int .i64 f.k) ∧ w.cell? ⟨gx, o + 1, none⟩ = some (.int .i64 f.vk) ∧ w.cell? ⟨gx, o + 2, none⟩ = some (.int .i64 f.vn) ∧ w.cell? ⟨gx, o + 3, none⟩ = some (.string f.vs) ∧ w.cell? ⟨gx, o + 4, none⟩ = some (.int .i64 f.r1) ∧ w.cell? ⟨gx, o + 5, none⟩ = some (.int .i64 f.r2) ∧ w.cell? ⟨gx, o + 6, none⟩ = some (.int .i64 f.r3) ∧ w.cell? ⟨gx, o + 7, none⟩ = some (.int .i64 f.r4) ∧ w.cell? ⟨gx, o + 8, none⟩ = some (.string f.op) ∧ w.cell? ⟨gx, o + 9, none⟩ = some (.slice A n c) ∧ w.cell? ⟨gy, o, none⟩ = some (.int .i64 f.k) ∧ w.cell? ⟨gy, o + 1, none⟩ = some (.int .i64 f.vk) ∧ w.cell? ⟨gy, o + 2, none⟩ = some (.int .i64 f.vn) ∧ w.cell? ⟨gy, o + 3, none⟩ = some (.string f.vs) ∧ w.cell? ⟨gy, o + 4, none⟩ = some (.int .i64 f.r1) ∧ w.cell? ⟨gy, o + 5, none⟩ = some (.int .i64 f.r2) ∧ w.cell? ⟨gy, o + 6, none⟩ = some (.int .i64 f.r3) ∧ w.cell? ⟨gy, o + 7, none⟩ = some (.int .i64 f.r4) ∧ w.cell? ⟨gy, o + 8, none⟩ = some (.string f.op) ∧ w.cell? ⟨gy, o + 9, none⟩ = some (.slice A' n c') := by
 obtain ⟨⟨d0, d1, d2, d3, d4, d5, d6, d7, d8, d9⟩, e0, e1, e2, e3, e4, e5, e6, e7, e8, e9⟩ := h
 exact ⟨d0, d1, d2, d3, d4, d5, d6, d7, d8, d9, e0, e1, e2, e3, e4, e5, e6, e7, e8, e9⟩
theorem two_blocks (w : World) (x y : Array Value) (t : TypeId) : ((w.alloc (.cells x t)).alloc (.cells y t)).drew.heap[w.heap.size]? = some (.cells x t (0, 0)) ∧ ((w.alloc (.cells x t)).alloc (.cells y t)).drew.heap[w.heap.size + 1]? = some (.cells y t (0, 0)) := by
 have h1 : (w.alloc (.cells x t)).heap.size = w.heap.size + 1 := heap_one _ _
 exact ⟨(heap_alloc_old (w.alloc (.cells x t)) (.cells y t) (by omega)).trans (heap_alloc_new w _), by rw [← h1]; exact heap_alloc_new (w.alloc (.cells x t)) _⟩
theorem below_drew1 {B : Nat} {a w : World} (h : Below B a w) : Below B a w.drew := ⟨h.os, h.tape, h.output, h.size, h.block⟩
theorem below_two {B : Nat} {a w : World} {o o' : Obj} (h : Below B a w) (hB : B ≤ w.heap.size) : Below B a ((w.alloc o).alloc o').drew := below_drew1 ((h.alloc hB o).alloc (by have := heap_one w o; omega) o')
theorem Q2.below {w w' : World} {gx gy o : Nat} {f : Fld} {A A' : Option Addr} {n c c' : Nat} (h : Q2 w gx gy o f A A' n c c') (hk : Below w.heap.size w w') (h8 : gx < w.heap.size) (h9 : gy < w.heap.size) : Q2 w' gx gy o f A A' n c c' :=
 h.kept (y := w.heap.size) (Kept.of hk) (by omega) (by omega)
structure C2 (w : World) (b8 b9 : Nat) (f : Fld) (A A' : Option Addr) (n c c' : Nat) : Prop where
 all : w.cell? ⟨b8, 0, none⟩ = some (.int .i64 f.k) ∧ w.cell? ⟨b8, 1, none⟩ = some (.int .i64 f.vk) ∧ w.cell? ⟨b8, 2, none⟩ = some (.int .i64 f.vn) ∧ w.cell? ⟨b8, 3, none⟩ = some (.string f.vs) ∧ w.cell? ⟨b8, 4, none⟩ = some (.int .i64 f.r1) ∧ w.cell? ⟨b8, 5, none⟩ = some (.int .i64 f.r2) ∧ w.cell? ⟨b8, 6, none⟩ = some (.int .i64 f.r3) ∧ w.cell? ⟨b8, 7, none⟩ = some (.int .i64 f.r4) ∧ w.cell? ⟨b8, 8, none⟩ = some (.string f.op) ∧ w.cell? ⟨b8, 9, none⟩ = some (.slice A n c) ∧ w.cell? ⟨b9, 0, none⟩ = some (.int .i64 f.k) ∧ w.cell? ⟨b9, 1, none⟩ = some (.int .i64 f.vk) ∧ w.cell? ⟨b9, 2, none⟩ = some (.int .i64 f.vn) ∧ w.cell? ⟨b9, 3, none⟩ = some (.string f.vs) ∧ w.cell? ⟨b9, 4, none⟩ = some (.int .i64 f.r1) ∧ w.cell? ⟨b9, 5, none⟩ = some (.int .i64 f.r2) ∧ w.cell? ⟨b9, 6, none⟩ = some (.int .i64 f.r3) ∧ w.cell? ⟨b9, 7, none⟩ = some (.int .i64 f.r4) ∧ w.cell? ⟨b9, 8, none⟩ = some (.string f.op) ∧ w.cell? ⟨b9, 9, none⟩ = some (.slice A' n c')
theorem C2.below {w w' : World} {b8 b9 : Nat} {f : Fld} {A A' : Option Addr} {n c c' : Nat} (h : C2 w b8 b9 f A A' n c c') (hk : Below w.heap.size w w') : C2 w' b8 b9 f A A' n c c' := by
 obtain ⟨d0, d1, d2, d3, d4, d5, d6, d7, d8, d9, e0, e1, e2, e3, e4, e5, e6, e7, e8, e9⟩ := h.all
 exact ⟨cell_later hk d0, cell_later hk d1, cell_later hk d2, cell_later hk d3, cell_later hk d4, cell_later hk d5, cell_later hk d6, cell_later hk d7, cell_later hk d8, cell_later hk d9, cell_later hk e0, cell_later hk e1, cell_later hk e2, cell_later hk e3, cell_later hk e4, cell_later hk e5, cell_later hk e6, cell_later hk e7, cell_later hk e8, cell_later hk e9⟩
def KN (w wr : World) (s k : Nat) (vx vy : Value) : Prop := ∃ q : Fo, k ≤ q.len ∧ 0 < q.len ∧ QS wr w.heap.size vx q ∧ QS wr w.heap.size vy q ∧ Below w.heap.size w wr ∧ vx.ownBlock ≠ vy.ownBlock ∧ k + (q.drop k).size = s
theorem KN.swap {w wr : World} {s k : Nat} {vx vy : Value} (h : KN w wr s k vx vy) : KN w wr s k vy vx := by
 obtain ⟨q, h1, h2, h3, h4, h5, h6, h7⟩ := h
 exact ⟨q, h1, h2, h4, h3, h5, Ne.symm h6, h7⟩
theorem KN.start {w wr : World} {gx gy c c' : Nat} {a : Nd} {A A' : Option Addr} (hx : wr.heap[gx]? = some (.cells (jN a.f A a.kids.len c) 31 (0, 0))) (hy : wr.heap[gy]? = some (.cells (jN a.f A' a.kids.len c') 31 (0, 0))) (hB : Below w.heap.size w wr) (h1 : w.heap.size ≤ gx) (h2 : w.heap.size ≤ gy) (hne : gx ≠ gy)
   (hA : KidsAt w (fun g => g < w.heap.size) a.kids A) (hA' : KidsAt w (fun g => g < w.heap.size) a.kids A') : KN w wr a.size 0 (.slice (some ⟨gx, 0, none⟩) 1 1) (.slice (some ⟨gy, 0, none⟩) 1 1) :=
 ⟨a.one, Nat.zero_le _, by rw [Nd.one_len]; omega, QS.one (f := a.f) (kd := a.kids) hx h1 rfl (kids_below hA hB (Nat.le_refl _)), QS.one (f := a.f) (kd := a.kids) hy h2 rfl (kids_below hA' hB (Nat.le_refl _)), hB, by simp [Value.ownBlock, hne], by rw [Nat.zero_add, Fo.drop_zero, Nd.one_size]⟩
theorem KN.step {w wr w1 w2 : World} {s k : Nat} {vx vy vx1 vy2 : Value} {q kd : Fo} (hk : k < q.len) (hkd : (q.nth k).kids = kd) (hX : QS wr w.heap.size vx q) (hY : QS wr w.heap.size vy q) (hB : Below w.heap.size w wr) (hne : vx.ownBlock ≠ vy.ownBlock) (hs : k + (q.drop k).size = s)
   (q1 : QS w1 w.heap.size vx1 (q.app kd)) (g1 : wr.grownBy w1 vx.ownBlock) (a1 : vx1.ownBlock = vx.ownBlock ∨ vx1.ownBlock = some wr.heap.size)
   (q2 : QS w2 w.heap.size vy2 (q.app kd)) (g2 : w1.grownBy w2 vy.ownBlock) (a2 : vy2.ownBlock = vy.ownBlock ∨ vy2.ownBlock = some w1.heap.size) : KN w w2 s (k + 1) vx1 vy2 := by
 subst hkd
 have hlx := hX.lt
 have hly := hY.lt
 have hl1 := q1.lt
 have B1 := below_grown hB hB.size g1 (fun k hk => (hlx k hk).1)
 have n1 : vx1.ownBlock ≠ vy.ownBlock := by
   rcases a1 with a1 | a1
   · rw [a1]; exact hne
   · rw [a1]; intro e; have := (hly _ e.symm).2; omega
 refine ⟨_, by rw [Fo.len_app]; omega, by rw [Fo.len_app]; omega, q1.grown g2 (fun k hk => (hly k hk).1) (Or.inr n1) B1.size, q2, below_grown B1 B1.size g2 (fun k hk => (hly k hk).1), ?_, Fo.queue_size q k s hk hs⟩
 rcases a2 with a2 | a2
 · rw [a2]; exact n1
 · rw [a2]; intro e; have := (hl1 _ e).2; omega
theorem cells_nine {W W' : World} {g b8 b9 : Nat} {x y : Value} (hg : W.grownBy W' (some g)) (h : W.cell? ⟨b8, 9, none⟩ = some x ∧ W.cell? ⟨b9, 9, none⟩ = some y) (n8 : b8 ≠ g) (n9 : b9 ≠ g) : W'.cell? ⟨b8, 9, none⟩ = some x ∧ W'.cell? ⟨b9, 9, none⟩ = some y :=
 ⟨(hg.cell_far ⟨b8, 9, none⟩ (World.block_lt_of_cell? W _ h.1) (by simpa using n8)).trans h.1, (hg.cell_far ⟨b9, 9, none⟩ (World.block_lt_of_cell? W _ h.2) (by simpa using n9)).trans h.2⟩
theorem kids_grown {W W' : World} {B g : Nat} {kd : Fo} {A : Option Addr} (h : KidsAt W (fun b => b < B) kd A) (hg : W.grownBy W' (some g)) (hB : B ≤ W.heap.size) (hgB : B ≤ g) : KidsAt W' (fun b => b < B) kd A := by
 rcases h with h | ⟨g', o, e, hr⟩
 · exact Or.inl h
 · exact Or.inr ⟨g', o, e, RowAt.same (fun b hb hl => ⟨hg.block b hl (fun e => by injection e with e; omega), hb⟩) _ _ _ hr⟩
theorem QS.drew1 {w : World} {B : Nat} {v : Value} {fo : Fo} (h : QS w B v fo) : QS w.drew B v fo := h.below ⟨rfl, rfl, rfl, Nat.le_refl _, fun _ _ => rfl⟩
theorem kids_drew {w : World} {P : Nat → Prop} {kd : Fo} {A : Option Addr} (h : KidsAt w P kd A) : KidsAt w.drew P kd A :=
 h.keep (y := w.heap.size) ((Kept.refl w.heap.size w).drew 1) (fun g hg hl => ⟨by omega, hg⟩)
theorem neq_rect (a b c d : Int) (W : World) : (binOp .neq 28 (.agg (jR a b c d)) (.agg (jR a b c d))).run prog W = .ok (.bool false) W := by
 have h := eq_rect a b c d a b c d W
 rw [run_eql_struct] at h
 rw [run_neq_struct]
 cases hr : (Op.equalIn 10000 28 (.agg (jR a b c d)) (.agg (jR a b c d))).run prog W with
 | ok v w' =>
   rw [hr] at h
   simp only [Result.andThen, Result.ok.injEq, Value.bool.injEq] at h ⊢
   obtain ⟨h1, h2⟩ := h
   rw [h1]; simp [h2]
 | halt e w' => rw [hr] at h; cases h
theorem knode (a : Nd) (A A' : Option Addr) (c c' : Nat) (w : World) (hs : a.size ≤ 300) (hA : KidsAt w (fun g => g < w.heap.size) a.kids A) (hA' : KidsAt w (fun g => g < w.heap.size) a.kids A') :
   Calls prog 14 #[.agg (jN a.f A a.kids.len c), .agg (jN a.f A' a.kids.len c')] w fun e w' => e = .returned (.bool true) ∧ Below w.heap.size w w' := by
 have b1 : Below w.heap.size w (w.alloc (.cells (jN a.f A a.kids.len c) 31)) := (Below.refl _ _).alloc (Nat.le_refl _) _
 have b2 : Below w.heap.size w ((w.alloc (.cells (jN a.f A a.kids.len c) 31)).alloc (.cells (jN a.f A' a.kids.len c') 31)) := b1.alloc b1.size _
 have z1 : (w.alloc (.cells (jN a.f A a.kids.len c) 31)).heap.size = w.heap.size + 1 := heap_one _ _
 have L1 : N2 ((w.alloc (.cells (jN a.f A a.kids.len c) 31)).alloc (.cells (jN a.f A' a.kids.len c') 31)) w.heap.size (w.heap.size + 1) a.f A A' a.kids.len c c' := ⟨NLoc.kept (y := w.heap.size + 5) ⟨heap_alloc_new _ _⟩ ((Kept.refl _ _).alloc _) (by omega), ⟨by rw [← z1]; exact heap_alloc_new _ _⟩⟩
 have HA := hid hA
 have HA' := hid hA'
 have HAw := hid (below_row hA b2)
 have HAw' := hid (below_row hA' b2)
 clear hA hA' b1 z1
 go_enter func14, ntmps14
 go_wp2_with fail
 generalize ((w.alloc (.cells (jN a.f A a.kids.len c) 31)).alloc (.cells (jN a.f A' a.kids.len c') 31)) = W1 at *
 refine (knodes 300 300 rfl (by decide) a A c W1 HAw.out).mono ?_; rintro e w2 ⟨r, rfl, hb2, hr1, hr2, hr3⟩
 have B2 : Below w.heap.size w w2 := b2.trans (hb2.mono b2.size)
 have L2 := L1.kept (y := w.heap.size + 7 + W1.heap.size) ⟨hb2.os, hb2.tape, hb2.output, hb2.size, fun k hk _ => hb2.block k hk⟩ (by omega) (by omega)
 have HAv' := hid (below_row HAw'.out hb2)
 have t1 : ¬ (300 : Int) < (r : Int) := by have := hr1 hs; omega
 clear hr1 hr2 hr3 hb2 b2 L1 HAw HAw'
 obtain ⟨d0, d1, d2, d3, d4, d5, d6, d7, d8, d9, -⟩ := L2.l.cells
 obtain ⟨e0, e1, e2, e3, e4, e5, e6, e7, e8, e9, -⟩ := L2.r.cells
 go_wp2_with fail
 refine (knodes 300 300 rfl (by decide) a A' c' w2 HAv'.out).mono ?_; rintro e w3 ⟨r', rfl, hb3, hr1, hr2, hr3⟩
 have B3 : Below w.heap.size w w3 := B2.trans (hb3.mono B2.size)
 have L3 := L2.kept (y := w.heap.size + 7 + w2.heap.size) ⟨hb3.os, hb3.tape, hb3.output, hb3.size, fun k hk _ => hb3.block k hk⟩ (by omega) (by omega)
 have t2 : ¬ (300 : Int) < (r' : Int) := by have := hr1 hs; omega
 clear hr1 hr2 hr3 hb3 B2 L2 HAv' d0 d1 d2 d3 d4 d5 d6 d7 d8 d9 e0 e1 e2 e3 e4 e5 e6 e7 e8 e9
 have hL := L3.l.lt
 have hR := L3.r.lt
 have HL3 := hid L3
 have S0 := hid ((L3.kept (y := w.heap.size + 7) ((Kept.refl _ w3).drew 1) (by omega) (by omega)))
 go_wp2_with fail
 go_upto_region 3 with fail
 go_cut [5, 6] from 18 to 21 (fun s5 s6 wc => Hid (KN w wc a.size 0 s5 s6))
 case first =>
   go_region_held3 (fun w' => w'.cell? ⟨w.heap.size, 0, none⟩ = some (.int .i64 a.f.k) ∧ w'.cell? ⟨w.heap.size, 1, none⟩ = some (.int .i64 a.f.vk) ∧ w'.cell? ⟨w.heap.size, 2, none⟩ = some (.int .i64 a.f.vn) ∧ w'.cell? ⟨w.heap.size, 3, none⟩ = some (.string a.f.vs) ∧ w'.cell? ⟨w.heap.size, 4, none⟩ = some (.int .i64 a.f.r1) ∧ w'.cell? ⟨w.heap.size, 5, none⟩ = some (.int .i64 a.f.r2) ∧ w'.cell? ⟨w.heap.size, 6, none⟩ = some (.int .i64 a.f.r3) ∧ w'.cell? ⟨w.heap.size, 7, none⟩ = some (.int .i64 a.f.r4) ∧ w'.cell? ⟨w.heap.size, 8, none⟩ = some (.string a.f.op) ∧ w'.cell? ⟨w.heap.size, 9, none⟩ = some (.slice A a.kids.len c) ∧ w'.cell? ⟨w.heap.size + 1, 0, none⟩ = some (.int .i64 a.f.k) ∧ w'.cell? ⟨w.heap.size + 1, 1, none⟩ = some (.int .i64 a.f.vk) ∧ w'.cell? ⟨w.heap.size + 1, 2, none⟩ = some (.int .i64 a.f.vn) ∧ w'.cell? ⟨w.heap.size + 1, 3, none⟩ = some (.string a.f.vs) ∧ w'.cell? ⟨w.heap.size + 1, 4, none⟩ = some (.int .i64 a.f.r1) ∧ w'.cell? ⟨w.heap.size + 1, 5, none⟩ = some (.int .i64 a.f.r2) ∧ w'.cell? ⟨w.heap.size + 1, 6, none⟩ = some (.int .i64 a.f.r3) ∧ w'.cell? ⟨w.heap.size + 1, 7, none⟩ = some (.int .i64 a.f.r4) ∧ w'.cell? ⟨w.heap.size + 1, 8, none⟩ = some (.string a.f.op) ∧ w'.cell? ⟨w.heap.size + 1, 9, none⟩ = some (.slice A' a.kids.len c')) (first | exact S0.out.all | (refine (HL3.out.kept (y := w.heap.size + 7) ?_ (by omega) (by omega)).all; (repeat (with_reducible first | exact Kept.refl _ _ | refine Kept.setCell ?_ _ _ | refine Kept.alloc ?_ _ | refine Kept.drew ?_ _ | refine Kept.drew1 ?_)); done)) (fail)
   all_goals (go_wp2_with fail)
   all_goals (go_meet)
   all_goals (first
     | exact hid (KN.start (two_blocks _ _ _ _).1 (two_blocks _ _ _ _).2 (below_two B3 B3.size) (by omega) (by omega) (by omega) HA.out HA'.out)
     | exact hid (KN.start (two_blocks _ _ _ _).2 (two_blocks _ _ _ _).1 (below_two B3 B3.size) (by omega) (by omega) (by omega) HA.out HA'.out))
 case rest =>
 have HKN := hcut
 clear S0 HL3 L3 hL hR B3 HA HA'
 go_wp2_with fail
 go_loopw [5, 6, 7] (fun vx vy kv wr => ∃ k : Nat, k ≤ 300 ∧ kv = .int .i64 k ∧ Hid (KN w wr a.size k vx vy)) (fun _ _ kv _ => 300 - (intOf kv).toNat)
 case atStart => exact ⟨0, by omega, rfl, HKN⟩
 case round =>
   clear HKN hcut
   obtain ⟨k, hk, rfl, HR⟩ := hrel
   obtain ⟨q, hkq, hq0, hX, hY, hB, hne, hsz⟩ := HR.out
   clear HR
   have hql : q.len ≤ 300 := by
     have h1 := Fo.len_size (q.drop k)
     rw [Fo.len_drop] at h1
     omega
   by_cases hlt : k < q.len
   · obtain ⟨gx, cx, A2, c2, rfl, hgx0, hgx1, hkx, f0, f1, f2, f3, f4, f5, f6, f7, f8, f9⟩ := hX.nth k hlt
     obtain ⟨gy, cy, A3, c3, rfl, hgy0, hgy1, hky, u0, u1, u2, u3, u4, u5, u6, u7, u8, u9⟩ := hY.nth k hlt
     have Q0 : Q2 wr gx gy (k * 10) (q.nth k).f A2 A3 (q.nth k).kids.len c2 c3 := ⟨⟨f0, f1, f2, f3, f4, f5, f6, f7, f8, f9⟩, u0, u1, u2, u3, u4, u5, u6, u7, u8, u9⟩
     have hxy : gx ≠ gy := fun e => hne (by rw [e]; rfl)
     have hkl : q.len + (q.nth k).kids.len ≤ 1000000 := by
       have h1 := Fo.size_drop q k hlt
       have h2 := Fo.len_size (q.nth k).kids
       omega
     have HST := hid (show QS wr w.heap.size (.slice (some ⟨gx, 0, none⟩) q.len cx) q ∧ QS wr w.heap.size (.slice (some ⟨gy, 0, none⟩) q.len cy) q ∧ Below w.heap.size w wr ∧ Value.ownBlock (.slice (some ⟨gx, 0, none⟩) q.len cx) ≠ Value.ownBlock (.slice (some ⟨gy, 0, none⟩) q.len cy) ∧ k + (q.drop k).size = a.size from ⟨hX, hY, hB, hne, hsz⟩)
     have HKX := hid hkx
     have HKY := hid hky
     have HQ0 := hid Q0
     have HQd := hid (show Q2 wr.drew gx gy (k * 10) (q.nth k).f A2 A3 (q.nth k).kids.len c2 c3 from ⟨Q0.l, Q0.r⟩)
     have k0 : (0 : Int) ≤ (k : Int) := Int.natCast_nonneg _
     have k1 : (k : Int) < (q.len : Int) := by omega
     clear hX hY hB hne hsz hkx hky Q0 f0 f1 f2 f3 f4 f5 f6 f7 f8 f9 u0 u1 u2 u3 u4 u5 u6 u7 u8 u9
     generalize (q.nth k).f = f at *
     generalize hkd : (q.nth k).kids = kd at *
     have HKD := hid hkd
     clear hkd
     go_wp2_with fail
     go_upto_region 7 with fail
     go_cut [8, 9] from 34 to 41 (fun s8 s9 wc => ∃ b8 b9, s8 = .pointer (some ⟨b8, 0, none⟩) ∧ s9 = .pointer (some ⟨b9, 0, none⟩) ∧ Hid (wr.heap.size ≤ b8 ∧ wr.heap.size ≤ b9 ∧ C2 wc b8 b9 f A2 A3 kd.len c2 c3 ∧ Below wr.heap.size wr wc))
     case first =>
       go_region_held3 (fun w' => w'.cell? ⟨gx, k * 10, none⟩ = some (.int .i64 f.k) ∧ w'.cell? ⟨gx, k * 10 + 1, none⟩ = some (.int .i64 f.vk) ∧ w'.cell? ⟨gx, k * 10 + 2, none⟩ = some (.int .i64 f.vn) ∧ w'.cell? ⟨gx, k * 10 + 3, none⟩ = some (.string f.vs) ∧ w'.cell? ⟨gx, k * 10 + 4, none⟩ = some (.int .i64 f.r1) ∧ w'.cell? ⟨gx, k * 10 + 5, none⟩ = some (.int .i64 f.r2) ∧ w'.cell? ⟨gx, k * 10 + 6, none⟩ = some (.int .i64 f.r3) ∧ w'.cell? ⟨gx, k * 10 + 7, none⟩ = some (.int .i64 f.r4) ∧ w'.cell? ⟨gx, k * 10 + 8, none⟩ = some (.string f.op) ∧ w'.cell? ⟨gx, k * 10 + 9, none⟩ = some (.slice A2 kd.len c2) ∧ w'.cell? ⟨gy, k * 10, none⟩ = some (.int .i64 f.k) ∧ w'.cell? ⟨gy, k * 10 + 1, none⟩ = some (.int .i64 f.vk) ∧ w'.cell? ⟨gy, k * 10 + 2, none⟩ = some (.int .i64 f.vn) ∧ w'.cell? ⟨gy, k * 10 + 3, none⟩ = some (.string f.vs) ∧ w'.cell? ⟨gy, k * 10 + 4, none⟩ = some (.int .i64 f.r1) ∧ w'.cell? ⟨gy, k * 10 + 5, none⟩ = some (.int .i64 f.r2) ∧ w'.cell? ⟨gy, k * 10 + 6, none⟩ = some (.int .i64 f.r3) ∧ w'.cell? ⟨gy, k * 10 + 7, none⟩ = some (.int .i64 f.r4) ∧ w'.cell? ⟨gy, k * 10 + 8, none⟩ = some (.string f.op) ∧ w'.cell? ⟨gy, k * 10 + 9, none⟩ = some (.slice A3 kd.len c3)) (first | exact HQd.out.all | (refine (HQ0.out.below ?_ (by omega) (by omega)).all; (repeat (with_reducible first | exact Below.refl _ _ | refine below_drew1 ?_ | refine Below.alloc ?_ (by simp) _ | refine Below.setCell ?_ (by simp) _)); done)) (fail)
       all_goals (go_wp2_with fail)
       all_goals (go_meet)
       all_goals (refine ⟨_, _, rfl, rfl, hid ⟨?_, ?_, ⟨⟨?_, ?_, ?_, ?_, ?_, ?_, ?_, ?_, ?_, ?_, ?_, ?_, ?_, ?_, ?_, ?_, ?_, ?_, ?_, ?_⟩⟩, ?_⟩⟩)
       all_goals (first | omega | exact below_two (Below.refl _ _) (Nat.le_refl _) | (simp [go_sem]; done) | (repeat (with_reducible first | exact Below.refl _ _ | refine below_drew1 ?_ | refine Below.alloc ?_ (by simp) _ | refine Below.setCell ?_ (by simp) _); done))
     case rest =>
     obtain ⟨b8, b9, rfl, rfl, hcut2⟩ := hcut
     obtain ⟨hb8, hb9, HC2, hB7⟩ := hcut2.out
     clear hcut2 HQ0 HQd
     obtain ⟨d0, d1, d2, d3, d4, d5, d6, d7, d8, d9, e0, e1, e2, e3, e4, e5, e6, e7, e8, e9⟩ := HC2.all
     have HB7 := hid hB7
     have HCC := hid HC2
     have hsame : ValueC.sameB ⟨f.vk, f.vn, f.vs⟩ ⟨f.vk, f.vn, f.vs⟩ = true := by simp [ValueC.sameB]
     have hl8 := World.block_lt_of_cell? wc _ d0
     have hl9 := World.block_lt_of_cell? wc _ e0
     clear hB7 HC2
     go_wp2_with fail
     refine (ValueC.keepValue_of f.vk f.vn f.vk f.vn f.vs f.vs wc).mono ?_
     rw [hsame]
     rintro e w5 ⟨rfl, hb5⟩
     clear hsame d0 d1 d2 d3 d4 d5 d6 d7 d8 d9 e0 e1 e2 e3 e4 e5 e6 e7 e8 e9
     have HC5 := HCC.out.below hb5
     obtain ⟨d0, d1, d2, d3, d4, d5, d6, d7, d8, d9, e0, e1, e2, e3, e4, e5, e6, e7, e8, e9⟩ := HC5.all
     have hB5 : Below wr.heap.size wr w5 := HB7.out.trans (hb5.mono HB7.out.size)
     have HQX := hid (HST.out.1.below hB5)
     have HQY := hid (HST.out.2.1.below hB5)
     have B5 : Below w.heap.size w w5 := HST.out.2.2.1.trans (hB5.mono HST.out.2.2.1.size)
     have HKX5 := hid (kids_below HKX.out (hB5.mono HST.out.2.2.1.size) HST.out.2.2.1.size)
     have HKY5 := hid (kids_below HKY.out (hB5.mono HST.out.2.2.1.size) HST.out.2.2.1.size)
     have hl5 : wr.heap.size ≤ w5.heap.size := hB5.size
     have eR := neq_rect f.r1 f.r2 f.r3 f.r4
     have HB5 := hid B5
     have hBs := B5.size
     have hl58 : b8 < w5.heap.size := Nat.lt_of_lt_of_le hl8 hb5.size
     have hl59 : b9 < w5.heap.size := Nat.lt_of_lt_of_le hl9 hb5.size
     clear HC5 HCC hb5 B5 hB5 HB7 HKX HKY hl8 hl9
     go_wp2_with fail
     have HD5 := hid (show w5.drew.cell? ⟨b8, 9, none⟩ = some (.slice A2 kd.len c2) ∧ w5.drew.cell? ⟨b9, 9, none⟩ = some (.slice A3 kd.len c3) from ⟨d9, e9⟩)
     clear d0 d1 d2 d3 d4 d5 d6 d7 d8 d9 e0 e1 e2 e3 e4 e5 e6 e7 e8 e9 eR
     go_upto_region 10 with fail
     replace HQX : Hid (QS w5.drew w.heap.size (.slice (some ⟨gx, 0, none⟩) q.len cx) q) := hid HQX.out.drew1
     replace HQY : Hid (QS w5.drew w.heap.size (.slice (some ⟨gy, 0, none⟩) q.len cy) q) := hid HQY.out.drew1
     have HKX : Hid (KidsAt w5.drew (fun b => b < w.heap.size) kd A2) := hid (kids_drew HKX5.out)
     have HKY : Hid (KidsAt w5.drew (fun b => b < w.heap.size) kd A3) := hid (kids_drew HKY5.out)
     replace hBs : w.heap.size ≤ w5.drew.heap.size := hBs
     have HBD : Hid (Below w.heap.size w w5.drew) := hid (below_drew1 HB5.out)
     have n8X : b8 ≠ gx := by omega
     have n9X : b9 ≠ gx := by omega
     have n8Y : b8 ≠ gy := by omega
     have n9Y : b9 ≠ gy := by omega
     have neX : Value.ownBlock (.slice (some ⟨gy, 0, none⟩) q.len cy) ≠ Value.ownBlock (.slice (some ⟨gx, 0, none⟩) q.len cx) := Ne.symm HST.out.2.2.2.1
     have neY : Value.ownBlock (.slice (some ⟨gx, 0, none⟩) q.len cx) ≠ Value.ownBlock (.slice (some ⟨gy, 0, none⟩) q.len cy) := HST.out.2.2.2.1
     have hgX0 := hgx0
     have hgY0 := hgy0
     clear HKX5 HKY5 HB5
     go_region_held3 (fun w' => w'.cell? ⟨b8, 9, none⟩ = some (.slice A2 kd.len c2) ∧ w'.cell? ⟨b9, 9, none⟩ = some (.slice A3 kd.len c3))
       (with_reducible first | exact HD5.out | exact DX | exact DY)
       (first
         | (refine step_append_queue _ (by rfl) (.tmp 78) (.tmp 80) (by rfl) (B := w.heap.size) (v := .slice (some ⟨gx, 0, none⟩) q.len cx) (c := c2) (fo := q) (kd := kd) (A := A2) (by rfl) (by rfl) (by first | exact HQX.out | exact HQXo.out) (by first | exact HKX.out | exact HKXo.out) hkl (by first | with_reducible exact hBs | with_reducible exact hBY) ?_
            intro vX wX qX gX aX
            first
              | (have DX := cells_nine gX HD5.out n8X n9X
                 have hBX := Nat.le_trans hBs gX.size
                 have HQYo := hid (HQY.out.grown gX (fun k hk => (HQX.out.lt k hk).1) (Or.inr neX) hBs)
                 have HKYo := hid (kids_grown HKY.out gX hBs hgX0))
              | have DX := cells_nine gX DY n8X n9X)
         | (refine step_append_queue _ (by rfl) (.tmp 82) (.tmp 84) (by rfl) (B := w.heap.size) (v := .slice (some ⟨gy, 0, none⟩) q.len cy) (c := c3) (fo := q) (kd := kd) (A := A3) (by rfl) (by rfl) (by first | exact HQY.out | exact HQYo.out) (by first | exact HKY.out | exact HKYo.out) hkl (by first | with_reducible exact hBs | with_reducible exact hBX) ?_
            intro vY wY qY gY aY
            first
              | (have DY := cells_nine gY HD5.out n8Y n9Y
                 have hBY := Nat.le_trans hBs gY.size
                 have HQXo := hid (HQX.out.grown gY (fun k hk => (HQY.out.lt k hk).1) (Or.inr neY) hBs)
                 have HKXo := hid (kids_grown HKX.out gY hBs hgY0))
              | have DY := cells_nine gY DX n8Y n9Y))
     all_goals (go_wp2_with fail)
     all_goals go_roundw
     all_goals (first
       | exact ⟨k + 1, by omega, by go_num, hid (KN.step hlt HKD.out HQX.out HQY.out HBD.out HST.out.2.2.2.1 HST.out.2.2.2.2 qX gX aX qY gY aY)⟩
       | exact ⟨k + 1, by omega, by go_num, hid (KN.swap (KN.step hlt HKD.out HQY.out HQX.out HBD.out (Ne.symm HST.out.2.2.2.1) HST.out.2.2.2.2 qY gY aY qX gX aX))⟩
       | (simp [intOf]; omega))
   · have hE : k = q.len := by omega
     subst hE
     obtain ⟨AX, cx, rfl⟩ := hX.form
     obtain ⟨AY, cy, rfl⟩ := hY.form
     have hB9 := hid hB
     clear hX hY hB hne hsz
     go_wp2_with fail
     go_ret
     exact ⟨rfl, hB9.out⟩
theorem parse_err {s : List UInt8} {b : Bad} (h : (cutL s).err = 0) (ho : (lev (cutL s).toks s.length 41).fm 0 = .error b) : parseL s = ⟨zeroN, b.2, b.1⟩ := by
 unfold parseL treeF; rw [if_neg (by rw [h]; decide), ho]
theorem parse_more {s : List UInt8} {a : Nd} {k : Nat} (h : (cutL s).err = 0) (ho : (lev (cutL s).toks s.length 41).fm 0 = .ok (a, k)) (hk : k < (cutL s).toks.length) : parseL s = ⟨zeroN, (badAt (cutL s).toks s.length k).2, 13⟩ := by
 unfold parseL treeF; rw [if_neg (by rw [h]; decide), ho]; simp only [if_pos hk]; rfl
theorem parse_deep {s : List UInt8} {a : Nd} {k : Nat} (h : (cutL s).err = 0) (ho : (lev (cutL s).toks s.length 41).fm 0 = .ok (a, k)) (hk : ¬ k < (cutL s).toks.length) (hd : 16 < a.deep) : parseL s = ⟨zeroN, 0, 14⟩ := by
 unfold parseL treeF; rw [if_neg (by rw [h]; decide), ho]; simp only [if_neg hk, if_pos hd]
theorem parse_fine {s : List UInt8} {a : Nd} {k : Nat} (h : (cutL s).err = 0) (ho : (lev (cutL s).toks s.length 41).fm 0 = .ok (a, k)) (hk : ¬ k < (cutL s).toks.length) (hd : ¬ 16 < a.deep) : parseL s = ⟨a, 0, 0⟩ := by
 unfold parseL treeF; rw [if_neg (by rw [h]; decide), ho]; simp only [if_neg hk, if_neg hd]
theorem kept_drew1 {x : Nat} {a w : World} (h : Kept x a w) : Kept x a w.drew := h.drew 1
theorem two_kept9 {w w' : World} {x y : Nat} {u v : Value} (h : w.cell? ⟨x, 5, none⟩ = some u ∧ w.cell? ⟨x, 4, none⟩ = some v) (hx : x ≠ y) (hk : Kept y w w') : w'.cell? ⟨x, 5, none⟩ = some u ∧ w'.cell? ⟨x, 4, none⟩ = some v := ⟨hk.cell hx h.1, hk.cell hx h.2⟩
theorem pre_start {w2 : World} {base : Nat} {v : Value} {l : List Tok} {en : Int} (h : w2.ownsRow base 114 4 v l.length (tcells l)) :
   Pre (w2.alloc (.cells #[v, .int .i64 0, .int .i64 en, .int .i64 0, .int .i64 0, .int .i64 0] 82)) w2.heap.size v l en 0 0 0 0 := by
 have hb : Below w2.heap.size w2 (w2.alloc (.cells #[v, .int .i64 0, .int .i64 en, .int .i64 0, .int .i64 0, .int .i64 0] 82)) := (Below.refl _ _).alloc (Nat.le_refl _) _
 obtain ⟨A, c, e, hT⟩ := (tokAt_own h).form
 refine ⟨heap_alloc_new _ _, A, c, e, fun i hi => ?_⟩
 obtain ⟨g, e, f0, f1, f2, f3⟩ := hT i hi
 exact ⟨g, e, World.block_lt_of_cell? w2 _ f0, cell_later hb f0, cell_later hb f1, cell_later hb f2, cell_later hb f3⟩
theorem rParse (s : ByteArray) (w : World) (hs : s.size ≤ 1000000) : Calls prog 18 #[.string s] w (ParsePost w (parseL s.data.toList)) := by
 have X1 := NBox.new w
 have B1 : Below w.heap.size w (w.alloc (.cells jZ 31)) := (Below.refl _ _).alloc (Nat.le_refl _) _
 have HSZ := hid hs
 have hslen : s.data.toList.length = s.size := Array.length_toList
 have HSL := hid hslen
 clear hslen
 go_enter func18, ntmps18
 go_wp2_with fail
 generalize (w.alloc (.cells jZ 31)) = W1 at *
 refine (rcut s W1 hs).mono ?_; rintro e w2 ⟨v, rfl, hown, hb2⟩
 have B2 := B1.trans (hb2.mono B1.size)
 have X2 := X1.kept (Kept.of (x := W1.heap.size) hb2) (Nat.ne_of_lt X1.lt)
 have lt2 := X2.lt
 clear X1 B1
 by_cases he : (cutL s.data.toList).err = 0
 rotate_left
 · have EO := hid (parse_lex he)
   have e1 : ((cutL s.data.toList).err != 0) = true := by rw [bne, beq_eq_false_iff_ne.2 he]; rfl
   obtain ⟨f0, f1, f2, f3, f4, f5, f6, f7, f8, f9, z0, z1, z2, z3, z4, z5, z6, z7, z8, z9⟩ := (X2).cells
   clear hown
   go_wp2_with fail
   refine bodyPost_ret (v := .tuple #[.agg jZ, .int .i64 (cutL s.data.toList).at_, .int .i64 (cutL s.data.toList).err]) (by simp [results, results18, go_sem, f0, f1, f2, f3, f4, f5, f6, f7, f8, f9]) rfl (ParsePost.zero (V := w2) EO.out B2 ?_)
   repeat (with_reducible first | exact Kept.refl _ _ | refine Kept.setCell ?_ _ _ | refine Kept.alloc ?_ _ | refine Kept.drew ?_ _ | refine kept_drew1 ?_)
 · have e1 : ((cutL s.data.toList).err != 0) = false := by rw [he]; rfl
   have HE := hid he
   obtain ⟨hl3, hts⟩ := cut_few s.data.toList
   have H3 := pre_start (en := (s.size : Int)) hown
   obtain ⟨TA, tc, hlv, -⟩ := (tokAt_own hown).form
   subst hlv
   clear he hown
   have HL3 := hid hl3
   have HTS := hid hts
   have X3 := X2.kept ((Kept.refl w2.heap.size w2).alloc (.cells #[.slice TA (cutL s.data.toList).toks.length tc, .int .i64 0, .int .i64 (s.size : Int), .int .i64 0, .int .i64 0, .int .i64 0] 82)) (Nat.ne_of_lt lt2)
   have B3 : Below w.heap.size w (w2.alloc (.cells #[.slice TA (cutL s.data.toList).toks.length tc, .int .i64 0, .int .i64 (s.size : Int), .int .i64 0, .int .i64 0, .int .i64 0] 82)) := B2.alloc B2.size _
   have hbx : w.heap.size ≠ w2.heap.size := Nat.ne_of_lt lt2
   have hxb : w2.heap.size ≠ w.heap.size := Ne.symm hbx
   clear X2 B2 hts hb2
   go_wp2_with fail
   generalize hW3 : (w2.alloc (.cells #[.slice TA (cutL s.data.toList).toks.length tc, .int .i64 0, .int .i64 (s.size : Int), .int .i64 0, .int .i64 0, .int .i64 0] 82)) = W3 at *
   refine (rtop hl3 (fun u hu => by have := HTS.out u hu; omega) W3 H3).mono ?_; intro e w4 hp
   clear hW3
   obtain ⟨f, A, m, c, rfl, k4, hm⟩ := post_split hp
   clear hp
   unfold nodeV
   have X4 := X3.kept k4 hbx
   have lt4 := X4.lt
   have hx4 : w2.heap.size < w4.heap.size := by have := H3.at_.lt; have := k4.size; omega
   have B4 : Below w.heap.size w w4 := ⟨k4.os.trans B3.os, k4.tape.trans B3.tape, k4.output.trans B3.output, Nat.le_trans B3.size k4.size, fun k hk => (k4.block k (Nat.lt_of_lt_of_le hk B3.size) (by omega)).trans (B3.block k hk)⟩
   have hB3s := B3.size
   have k5 : Kept w4.heap.size w4 (w4.alloc (.cells (jN f A m c) 31)) := (Kept.refl _ w4).alloc _
   have X5 := X4.kept k5 (Nat.ne_of_lt lt4)
   have L5 : NLoc (w4.alloc (.cells (jN f A m c) 31)) w4.heap.size f A m c := ⟨heap_alloc_new _ _⟩
   have B5 : Below w.heap.size w (w4.alloc (.cells (jN f A m c) 31)) := B4.alloc B4.size _
   have nb1 : w.heap.size ≠ w4.heap.size := Nat.ne_of_lt lt4
   have nb2 : w4.heap.size ≠ w.heap.size := Ne.symm nb1
   have nb3 : w4.heap.size ≠ w2.heap.size := by omega
   have nb4 : w2.heap.size ≠ w4.heap.size := by omega
   have hx3 : w2.heap.size < W3.heap.size := H3.at_.lt
   clear X3 X4 B3 B4 H3
   rcases hm with ⟨kd, k', ho, hm, hA, hP⟩ | ⟨b, k2, n2, ho, hb0, hn2, hn3, hP⟩
   · rw [show (s.size : Int) = ((s.data.toList.length : Nat) : Int) from by rw [HSL.out]] at ho
     have hP5 := hP.alloc (.cells (jN f A m c) 31)
     have A5 : KidsAt (w4.alloc (.cells (jN f A m c) 31)) (fun g => w.heap.size < g ∧ g ≠ w4.heap.size) kd A := hA.keep k5 (fun g hg hl => ⟨by omega, by omega, by omega⟩)
     have hsz : (Nd.mk f kd).size ≤ 300 := by
       have h1 := (lev_sz (cutL s.data.toList).toks ((s.data.toList.length : Nat) : Int) 41).fm 0 _ _ ho
       have h2 := ((lev_goes (cutL s.data.toList).toks ((s.data.toList.length : Nat) : Int) 41).fm 0 _ _ ho).2
       omega
     have HO := hid ho
     have HM := hid hm
     clear ho hm hA hP k5
     obtain ⟨c0, c1, c2, c3, c4, c5, y1, y3, y4, y5⟩ := (hP5).at_.cells
     by_cases hk : k' < (cutL s.data.toList).toks.length
     · have EO := hid (parse_more HE.out HO.out hk)
       have d1 : (k' : Int) < (((cutL s.data.toList).toks.length : Nat) : Int) := by omega
       go_wp2_with fail
       clear c0 c1 c2 c3 c4 c5 y1 y3 y4 y5
       generalize (w4.alloc (.cells (jN f A m c) 31)) = W5 at *
       refine (rbad W5 hP5 HL3.out).mono ?_; rintro e w6 ⟨rfl, H6, k6⟩
       have X6 := X5.kept k6 hbx
       have B6 : Below w.heap.size w w6 := ⟨k6.os.trans B5.os, k6.tape.trans B5.tape, k6.output.trans B5.output, Nat.le_trans B5.size k6.size, fun k hk => (k6.block k (Nat.lt_of_lt_of_le hk B5.size) (by omega)).trans (B5.block k hk)⟩
       have lt6 := X6.lt
       have hx6 := H6.at_.lt
       obtain ⟨c0, c1, c2, c3, c4, c5, y1, y3, y4, y5⟩ := (H6).at_.cells
       obtain ⟨f0, f1, f2, f3, f4, f5, f6, f7, f8, f9, z0, z1, z2, z3, z4, z5, z6, z7, z8, z9⟩ := (X6).cells
       go_wp2_with fail
       have S9 := hid (show w6.drew.cell? ⟨w2.heap.size, 5, none⟩ = some (.int .i64 (badAt (cutL s.data.toList).toks ((s.size : Int)) k').2) ∧ w6.drew.cell? ⟨w2.heap.size, 4, none⟩ = some (.int .i64 13) from ⟨c5, c4⟩)
       have SH := hid (show w6.cell? ⟨w2.heap.size, 5, none⟩ = some (.int .i64 (badAt (cutL s.data.toList).toks ((s.size : Int)) k').2) ∧ w6.cell? ⟨w2.heap.size, 4, none⟩ = some (.int .i64 13) from ⟨c5, c4⟩)
       clear c0 c1 c2 c3 c4 c5 y1 y3 y4 y5
       go_region_held3 (fun w' => w'.cell? ⟨w2.heap.size, 5, none⟩ = some (.int .i64 (badAt (cutL s.data.toList).toks ((s.size : Int)) k').2) ∧ w'.cell? ⟨w2.heap.size, 4, none⟩ = some (.int .i64 13))
         (first | with_reducible exact S9.out | (refine two_kept9 (y := w.heap.size) SH.out hxb ?_; (repeat (with_reducible first | exact Kept.refl _ _ | refine Kept.setCell ?_ _ _ | refine Kept.alloc ?_ _ | refine kept_drew1 ?_)); done)) (fail)
       all_goals (go_wp2_with fail)
       rw [show (s.size : Int) = ((s.data.toList.length : Nat) : Int) from by rw [HSL.out]]
       refine bodyPost_ret (v := .tuple #[.agg jZ, .int .i64 (badAt (cutL s.data.toList).toks (s.data.toList.length : Nat) k').2, .int .i64 13]) (by simp [results, results18, go_sem, f0, f1, f2, f3, f4, f5, f6, f7, f8, f9]) rfl (ParsePost.zero (V := w6) EO.out B6 ?_)
       repeat (with_reducible first | exact Kept.refl _ _ | refine Kept.setCell ?_ _ _ | refine Kept.alloc ?_ _ | refine Kept.drew ?_ _ | refine kept_drew1 ?_)
     · by_cases hd : 16 < (Nd.mk f kd).deep
       · have EO := hid (parse_deep HE.out HO.out hk hd)
         have d1 : ¬ (k' : Int) < (((cutL s.data.toList).toks.length : Nat) : Int) := by omega
         have t16 : (16 : Int) < ((((Nd.mk f kd).deep : Nat)) : Int) := by omega
         have hif : (if (Nd.mk f kd).size ≤ 2000 then (Nd.mk f kd).deep else 0) = (Nd.mk f kd).deep := if_pos (by omega)
         have HD : Hid (∀ W : World, KidsAt W (fun g => g < W.heap.size) kd A → Calls prog 32 #[.agg (jN f A m c)] W fun e w' => e = .returned (.int .i64 (((Nd.mk f kd).deep : Nat) : Int)) ∧ Below W.heap.size W w') := hid (fun W h => by have h1 := rDepth ⟨f, kd⟩ A c W h; rw [hif] at h1; simp only [HM.out] at h1; exact h1)
         clear hif
         go_wp2_with fail
         clear c0 c1 c2 c3 c4 c5 y1 y3 y4 y5
         generalize (w4.alloc (.cells (jN f A m c) 31)) = W5 at *
         refine (HD.out W5 (A5.keep (y := w.heap.size + 1 + W5.heap.size + w4.heap.size) (Kept.refl _ W5) (fun g hg hl => ⟨by omega, hl⟩))).mono ?_; rintro e w7 ⟨rfl, hb7⟩
         have X7 := X5.kept (Kept.of (x := W5.heap.size) hb7) (Nat.ne_of_lt X5.lt)
         have L7 := L5.kept (Kept.of (x := W5.heap.size) hb7) (Nat.ne_of_lt L5.lt)
         have B7 : Below w.heap.size w w7 := B5.trans (hb7.mono B5.size)
         have A7 : KidsAt w7 (fun g => w.heap.size ≤ g ∧ g ≠ w.heap.size) kd A := A5.keep (Kept.of (x := W5.heap.size) hb7) (fun g hg hl => ⟨by omega, by omega, by omega⟩)
         have lt7 := X7.lt
         obtain ⟨f0, f1, f2, f3, f4, f5, f6, f7, f8, f9, z0, z1, z2, z3, z4, z5, z6, z7, z8, z9⟩ := (X7).cells
         go_wp2_with fail
         refine bodyPost_ret (v := .tuple #[.agg jZ, .int .i64 0, .int .i64 14]) (by simp [results, results18, go_sem, f0, f1, f2, f3, f4, f5, f6, f7, f8, f9]) rfl (ParsePost.zero (V := w7) EO.out B7 ?_)
         repeat (with_reducible first | exact Kept.refl _ _ | refine Kept.setCell ?_ _ _ | refine Kept.alloc ?_ _ | refine Kept.drew ?_ _ | refine kept_drew1 ?_)
       · have EO := hid (parse_fine HE.out HO.out hk hd)
         have d1 : ¬ (k' : Int) < (((cutL s.data.toList).toks.length : Nat) : Int) := by omega
         have t16 : ¬ (16 : Int) < ((((Nd.mk f kd).deep : Nat)) : Int) := by omega
         have hif : (if (Nd.mk f kd).size ≤ 2000 then (Nd.mk f kd).deep else 0) = (Nd.mk f kd).deep := if_pos (by omega)
         have HD : Hid (∀ W : World, KidsAt W (fun g => g < W.heap.size) kd A → Calls prog 32 #[.agg (jN f A m c)] W fun e w' => e = .returned (.int .i64 (((Nd.mk f kd).deep : Nat) : Int)) ∧ Below W.heap.size W w') := hid (fun W h => by have h1 := rDepth ⟨f, kd⟩ A c W h; rw [hif] at h1; simp only [HM.out] at h1; exact h1)
         clear hif
         go_wp2_with fail
         clear c0 c1 c2 c3 c4 c5 y1 y3 y4 y5
         generalize (w4.alloc (.cells (jN f A m c) 31)) = W5 at *
         refine (HD.out W5 (A5.keep (y := w.heap.size + 1 + W5.heap.size + w4.heap.size) (Kept.refl _ W5) (fun g hg hl => ⟨by omega, hl⟩))).mono ?_; rintro e w7 ⟨rfl, hb7⟩
         have X7 := X5.kept (Kept.of (x := W5.heap.size) hb7) (Nat.ne_of_lt X5.lt)
         have L7 := L5.kept (Kept.of (x := W5.heap.size) hb7) (Nat.ne_of_lt L5.lt)
         have B7 : Below w.heap.size w w7 := B5.trans (hb7.mono B5.size)
         have A7 : KidsAt w7 (fun g => w.heap.size ≤ g ∧ g ≠ w.heap.size) kd A := A5.keep (Kept.of (x := W5.heap.size) hb7) (fun g hg hl => ⟨by omega, by omega, by omega⟩)
         have lt7 := X7.lt
         obtain ⟨f0, f1, f2, f3, f4, f5, f6, f7, f8, f9, z0, z1, z2, z3, z4, z5, z6, z7, z8, z9⟩ := (X7).cells
         obtain ⟨a0, a1, a2, a3, a4, a5, a6, a7, a8, a9, az0, az1, az2, az3, az4, az5, az6, az7, az8, az9⟩ := (L7).cells
         go_wp2_with fail
         refine bodyPost_ret (v := .tuple #[.agg (jN f A m c), .int .i64 0, .int .i64 0]) (by simp [results, results18, go_sem, f0, f1, f2, f3, f4, f5, f6, f7, f8, f9]) rfl (ParsePost.ok (f := f) (kd := kd) (A := A) (m := m) (c := c) (V := w7) EO.out B7 HM.out A7 ?_)
         repeat (with_reducible first | exact Kept.refl _ _ | refine Kept.setCell ?_ _ _ | refine Kept.alloc ?_ _ | refine Kept.drew ?_ _ | refine kept_drew1 ?_)
   · have EO := hid (parse_err HE.out (by rw [show (s.size : Int) = ((s.data.toList.length : Nat) : Int) from by rw [HSL.out]] at ho; exact ho))
     have hP5 := hP.alloc (.cells (jN f A m c) 31)
     have q0 : (b.1 == 0) = false := beq_eq_false_iff_ne.2 hb0
     have q1 : (b.1 != 0) = true := by simp [hb0]
     clear ho hP
     have hP6 := hP5
     generalize hV5 : (w4.alloc (.cells (jN f A m c) 31)) = W5 at *
     obtain ⟨c0, c1, c2, c3, c4, c5, y1, y3, y4, y5⟩ := (hP5).at_.cells
     have S9 := hid (show W5.drew.cell? ⟨w2.heap.size, 5, none⟩ = some (.int .i64 b.2) ∧ W5.drew.cell? ⟨w2.heap.size, 4, none⟩ = some (.int .i64 b.1) from ⟨c5, c4⟩)
     have SH := hid (show W5.cell? ⟨w2.heap.size, 5, none⟩ = some (.int .i64 b.2) ∧ W5.cell? ⟨w2.heap.size, 4, none⟩ = some (.int .i64 b.1) from ⟨c5, c4⟩)
     have lt6 := X5.lt
     obtain ⟨f0, f1, f2, f3, f4, f5, f6, f7, f8, f9, z0, z1, z2, z3, z4, z5, z6, z7, z8, z9⟩ := (X5).cells
     go_wp2_with fail
     clear c0 c1 c2 c3 c4 c5 y1 y3 y4 y5
     clear hV5
     go_region_held3 (fun w' => w'.cell? ⟨w2.heap.size, 5, none⟩ = some (.int .i64 b.2) ∧ w'.cell? ⟨w2.heap.size, 4, none⟩ = some (.int .i64 b.1))
       (first | with_reducible exact S9.out | (refine two_kept9 (y := w.heap.size) SH.out hxb ?_; (repeat (with_reducible first | exact Kept.refl _ _ | refine Kept.setCell ?_ _ _ | refine Kept.alloc ?_ _ | refine kept_drew1 ?_)); done)) (fail)
     all_goals (go_wp2_with fail)
     refine bodyPost_ret (v := .tuple #[.agg jZ, .int .i64 b.2, .int .i64 b.1]) (by simp [results, results18, go_sem, f0, f1, f2, f3, f4, f5, f6, f7, f8, f9]) rfl (ParsePost.zero (V := W5) EO.out B5 ?_)
     repeat (with_reducible first | exact Kept.refl _ _ | refine Kept.setCell ?_ _ _ | refine Kept.alloc ?_ _ | refine Kept.drew ?_ _ | refine kept_drew1 ?_)
end Go.Proofs.YticehalcnbjccaaGreatDoor.TreeC
