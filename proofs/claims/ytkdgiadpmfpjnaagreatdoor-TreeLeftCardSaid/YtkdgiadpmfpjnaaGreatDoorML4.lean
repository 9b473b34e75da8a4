/-
  The walk of the statement TreeLeft: for all arguments it answers true.
-/
import Derived.Test.YtkdgiadpmfpjnaaGreatDoorMD
import Derived.Test.YtkdgiadpmfpjnaaGreatDoorMZ
import Derived.Test.YtkdgiadpmfpjnaaGreatDoorML6
import Derived.Test.YtkdgiadpmfpjnaaGreatDoorMG
import Derived.Test.YtkdgiadpmfpjnaaGreatDoorMP0
import Derived.Deep.RegionHeld3
import Derived.StillTailTactics
import Derived.Deep.CutRange
namespace Go.Proofs.YtkdgiadpmfpjnaaGreatDoor.TreeC
set_option linter.unusedVariables false
open Go.RowKit Go.Proofs.YtkdgiadpmfpjnaaGreatDoor.NumC Go.Proofs.YtkdgiadpmfpjnaaGreatDoor.LexC

def sgCells : Array Value := #[.string { data := #[61] }, .string { data := #[60, 62] }, .string { data := #[60] }, .string { data := #[60, 61] }, .string { data := #[62] }, .string { data := #[62, 61] }, .string { data := #[43] }, .string { data := #[45] }, .string { data := #[38] }, .string { data := #[42] }, .string { data := #[47] }, .string { data := #[37] }, .string { data := #[94] }]
def rwCells : Array Value := #[.int .i64 1, .int .i64 1, .int .i64 1, .int .i64 1, .int .i64 1, .int .i64 1, .int .i64 2, .int .i64 2, .int .i64 2, .int .i64 3, .int .i64 3, .int .i64 3, .int .i64 4]
def sgS (x : Nat) : ByteArray := str (sg x)
theorem sg_cell (m : Nat) (h : m < 13) : sgCells[m]? = some (.string (sgS m)) := by
  rcases thirteen h with rfl | rfl | rfl | rfl | rfl | rfl | rfl | rfl | rfl | rfl | rfl | rfl | rfl <;> rfl
theorem rw_cell (m : Nat) (h : m < 13) : rwCells[m]? = some (.int .i64 (rw_ m : Int)) := by
  rcases thirteen h with rfl | rfl | rfl | rfl | rfl | rfl | rfl | rfl | rfl | rfl | rfl | rfl | rfl <;> rfl
/-- What lies ahead of the loop: the arguments, the signs, the rows. -/
structure LW (w V : World) (k0 k1 n0 n1 n2 : Int) : Prop where
  below : Below w.heap.size w V
  size : w.heap.size + 4 ≤ V.heap.size
  k0 : V.cell? ⟨w.heap.size, 0, none⟩ = some (.int .u8 k0)
  k1 : V.cell? ⟨w.heap.size, 1, none⟩ = some (.int .u8 k1)
  n0 : V.cell? ⟨w.heap.size + 1, 0, none⟩ = some (.int .u8 n0)
  n1 : V.cell? ⟨w.heap.size + 1, 1, none⟩ = some (.int .u8 n1)
  n2 : V.cell? ⟨w.heap.size + 1, 2, none⟩ = some (.int .u8 n2)
  sg : ∀ m, m < 13 → V.cell? ⟨w.heap.size + 1 + 1, m, none⟩ = some (.string (sgS m))
  rw : ∀ m, m < 13 → V.cell? ⟨w.heap.size + 1 + 1 + 1, m, none⟩ = some (.int .i64 (rw_ m : Int))
theorem LW.kept {w V V' : World} {k0 k1 n0 n1 n2 : Int} {y : Nat} (h : LW w V k0 k1 n0 n1 n2) (hk : Kept y V V') (hy : w.heap.size + 4 ≤ y) : LW w V' k0 k1 n0 n1 n2 :=
  ⟨⟨hk.os.trans h.below.os, hk.tape.trans h.below.tape, hk.output.trans h.below.output, Nat.le_trans h.below.size hk.size, fun k hk2 => (hk.block k (Nat.lt_of_lt_of_le hk2 h.below.size) (by omega)).trans (h.below.block k hk2)⟩,
   Nat.le_trans h.size hk.size, hk.cell (by omega) h.k0, hk.cell (by omega) h.k1, hk.cell (by omega) h.n0, hk.cell (by omega) h.n1, hk.cell (by omega) h.n2, fun m hm => hk.cell (by omega) (h.sg m hm), fun m hm => hk.cell (by omega) (h.rw m hm)⟩
theorem LW.start (w : World) (k0 k1 n0 n1 n2 : Int) : LW w ((((w.alloc (.cells #[.int .u8 k0, .int .u8 k1] 42)).alloc (.cells #[.int .u8 n0, .int .u8 n1, .int .u8 n2] 43)).alloc (.cells sgCells 9)).alloc (.cells rwCells 3)) k0 k1 n0 n1 n2 := by
  have s1 : (w.alloc (.cells #[.int .u8 k0, .int .u8 k1] 42)).heap.size = w.heap.size + 1 := by simp
  have s2 : ((w.alloc (.cells #[.int .u8 k0, .int .u8 k1] 42)).alloc (.cells #[.int .u8 n0, .int .u8 n1, .int .u8 n2] 43)).heap.size = w.heap.size + 1 + 1 := by simp
  have s3 : (((w.alloc (.cells #[.int .u8 k0, .int .u8 k1] 42)).alloc (.cells #[.int .u8 n0, .int .u8 n1, .int .u8 n2] 43)).alloc (.cells sgCells 9)).heap.size = w.heap.size + 1 + 1 + 1 := by simp
  have b1 : Below w.heap.size w (w.alloc (.cells #[.int .u8 k0, .int .u8 k1] 42)) := (Below.refl _ _).alloc (Nat.le_refl _) _
  have b4 : ∀ (U : World) (o : Obj), Below U.heap.size U (U.alloc o) := fun U o => (Below.refl _ _).alloc (Nat.le_refl _) _
  have c1 : ∀ i v, (#[.int .u8 k0, .int .u8 k1] : Array Value)[i]? = some v → ((((w.alloc (.cells #[.int .u8 k0, .int .u8 k1] 42)).alloc (.cells #[.int .u8 n0, .int .u8 n1, .int .u8 n2] 43)).alloc (.cells sgCells 9)).alloc (.cells rwCells 3)).cell? ⟨w.heap.size, i, none⟩ = some v := fun i v h =>
    cell_later (b4 _ _) (cell_later (b4 _ _) (cell_later (b4 _ _) (by rw [World.cell?_alloc_mark]; exact h)))
  have c2 : ∀ i v, (#[.int .u8 n0, .int .u8 n1, .int .u8 n2] : Array Value)[i]? = some v → ((((w.alloc (.cells #[.int .u8 k0, .int .u8 k1] 42)).alloc (.cells #[.int .u8 n0, .int .u8 n1, .int .u8 n2] 43)).alloc (.cells sgCells 9)).alloc (.cells rwCells 3)).cell? ⟨w.heap.size + 1, i, none⟩ = some v := fun i v h =>
    cell_later (b4 _ _) (cell_later (b4 _ _) (by rw [← s1, World.cell?_alloc_mark]; exact h))
  refine ⟨b1.trans ?_, by simp, c1 0 _ rfl, c1 1 _ rfl, c2 0 _ rfl, c2 1 _ rfl, c2 2 _ rfl, fun m hm => cell_later (b4 _ _) (by rw [← s2, World.cell?_alloc_mark]; exact sg_cell m hm), fun m hm => by rw [← s3, World.cell?_alloc_mark]; exact rw_cell m hm⟩
  have := (b4 (w.alloc (.cells #[.int .u8 k0, .int .u8 k1] 42)) (.cells #[.int .u8 n0, .int .u8 n1, .int .u8 n2] 43))
  have q2 := this.trans ((b4 ((w.alloc (.cells #[.int .u8 k0, .int .u8 k1] 42)).alloc (.cells #[.int .u8 n0, .int .u8 n1, .int .u8 n2] 43)) (.cells sgCells 9)).mono this.size)
  have q3 := q2.trans ((b4 (((w.alloc (.cells #[.int .u8 k0, .int .u8 k1] 42)).alloc (.cells #[.int .u8 n0, .int .u8 n1, .int .u8 n2] 43)).alloc (.cells sgCells 9)) (.cells rwCells 3)).mono q2.size)
  exact q3.mono b1.size
/-- Three texts in a row of their own. -/
structure DB (w : World) (b : Nat) (s0 s1 s2 : ByteArray) : Prop where
  at_ : w.heap[b]? = some (.cells #[.string s0, .string s1, .string s2] 46 (0, 0))
theorem DB.lt {w : World} {b : Nat} {s0 s1 s2 : ByteArray} (h : DB w b s0 s1 s2) : b < w.heap.size := (Array.getElem?_eq_some_iff.1 h.at_).1
theorem DB.cells {w : World} {b : Nat} {s0 s1 s2 : ByteArray} (h : DB w b s0 s1 s2) : w.cell? ⟨b, 0, none⟩ = some (.string s0) ∧ w.cell? ⟨b, 1, none⟩ = some (.string s1) ∧ w.cell? ⟨b, 2, none⟩ = some (.string s2) ∧
    w.frozen? ⟨b, 0, none⟩ = false ∧ w.frozen? ⟨b, 1, none⟩ = false ∧ w.frozen? ⟨b, 2, none⟩ = false := by
  have h1 := h.at_
  refine ⟨?_, ?_, ?_, ?_, ?_, ?_⟩ <;> simp [World.cell?, World.frozen?, h1]
theorem DB.grow {w w' : World} {b y : Nat} {s0 s1 s2 : ByteArray} (h : DB w b s0 s1 s2) (hk : Kept y w w') (hb : b ≠ y) : DB w' b s0 s1 s2 := ⟨(hk.block b h.lt hb).trans h.at_⟩
theorem DB.set0 {w : World} {b : Nat} {s0 s1 s2 : ByteArray} (h : DB w b s0 s1 s2) (s : ByteArray) : DB (w.setCell ⟨b, 0, none⟩ (.string s)) b s s1 s2 := by
  have h1 := h.at_
  exact ⟨by simp [World.setCell, Array.getElem?_modify, h1]⟩
theorem DB.set1 {w : World} {b : Nat} {s0 s1 s2 : ByteArray} (h : DB w b s0 s1 s2) (s : ByteArray) : DB (w.setCell ⟨b, 1, none⟩ (.string s)) b s0 s s2 := by
  have h1 := h.at_
  exact ⟨by simp [World.setCell, Array.getElem?_modify, h1]⟩
theorem DB.set2 {w : World} {b : Nat} {s0 s1 s2 : ByteArray} (h : DB w b s0 s1 s2) (s : ByteArray) : DB (w.setCell ⟨b, 2, none⟩ (.string s)) b s0 s1 s := by
  have h1 := h.at_
  exact ⟨by simp [World.setCell, Array.getElem?_modify, h1]⟩
/-- The five texts of the formula. -/
structure SC (wc : World) (bD bS x y : Nat) (s0 s1 s2 : ByteArray) : Prop where
  d0 : wc.cell? ⟨bD, 0, none⟩ = some (.string s0)
  d1 : wc.cell? ⟨bD, 1, none⟩ = some (.string s1)
  d2 : wc.cell? ⟨bD, 2, none⟩ = some (.string s2)
  x_ : wc.cell? ⟨bS, x, none⟩ = some (.string (sgS x))
  y_ : wc.cell? ⟨bS, y, none⟩ = some (.string (sgS y))
theorem SC.five {wc : World} {bD bS x y : Nat} {s0 s1 s2 : ByteArray} (h : SC wc bD bS x y s0 s1 s2) : wc.cell? ⟨bD, 0, none⟩ = some (.string s0) ∧ wc.cell? ⟨bD, 1, none⟩ = some (.string s1) ∧ wc.cell? ⟨bD, 2, none⟩ = some (.string s2) ∧ wc.cell? ⟨bS, x, none⟩ = some (.string (sgS x)) ∧ wc.cell? ⟨bS, y, none⟩ = some (.string (sgS y)) := ⟨h.d0, h.d1, h.d2, h.x_, h.y_⟩
theorem SC.kept {wc wd : World} {bD bS x y z : Nat} {s0 s1 s2 : ByteArray} (h : SC wc bD bS x y s0 s1 s2) (hk : Kept z wc wd) (h1 : bD ≠ z) (h2 : bS ≠ z) : SC wd bD bS x y s0 s1 s2 := ⟨hk.cell h1 h.d0, hk.cell h1 h.d1, hk.cell h1 h.d2, hk.cell h2 h.x_, hk.cell h2 h.y_⟩
theorem SC.below {wc wd : World} {bD bS x y : Nat} {s0 s1 s2 : ByteArray} (h : SC wc bD bS x y s0 s1 s2) (hk : Below wc.heap.size wc wd) : SC wd bD bS x y s0 s1 s2 := ⟨cell_later hk h.d0, cell_later hk h.d1, cell_later hk h.d2, cell_later hk h.x_, cell_later hk h.y_⟩
/-- A block that was made ahead of a call. -/
theorem boxed {U w9 : World} (k9 : Below ((U.alloc (.cells #[.int .i64 0, .int .i64 0, .int .i64 0, .string { data := #[] }, .int .i64 0, .int .i64 0, .int .i64 0, .int .i64 0, .string { data := #[] }, .slice none 0 0] 31)).drew).heap.size (U.alloc (.cells #[.int .i64 0, .int .i64 0, .int .i64 0, .string { data := #[] }, .int .i64 0, .int .i64 0, .int .i64 0, .int .i64 0, .string { data := #[] }, .slice none 0 0] 31)).drew w9) : NBox w9 U.heap.size :=
  ⟨(k9.block U.heap.size (by show U.heap.size < (U.alloc (.cells #[.int .i64 0, .int .i64 0, .int .i64 0, .string { data := #[] }, .int .i64 0, .int .i64 0, .int .i64 0, .int .i64 0, .string { data := #[] }, .slice none 0 0] 31)).heap.size; simp)).trans (show (U.alloc (.cells #[.int .i64 0, .int .i64 0, .int .i64 0, .string { data := #[] }, .int .i64 0, .int .i64 0, .int .i64 0, .int .i64 0, .string { data := #[] }, .slice none 0 0] 31)).heap[U.heap.size]? = _ from heap_alloc_new U _)⟩
/-- What lies behind the parse: the node in a block of its own; the place, the number in slots. -/
structure LRes (w wc : World) (bD hb : Nat) (k0 k1 n0 n1 n2 : Int) (p : PRes) (s12 s13 : Value) : Prop where
  lw : LW w wc k0 k1 n0 n1 n2
  lt : w.heap.size + 4 ≤ hb
  s12 : s12 = .int .i64 p.at_
  s13 : s13 = .int .i64 p.err
  node : ∃ A c, NLoc wc hb p.nd.f A p.nd.kids.len c ∧ KidsAt wc (fun g => g < wc.heap.size) p.nd.kids A
theorem dig_ok {z : UInt8} {a : Nat} (h : z = UInt8.ofNat (48 + a)) (ha : a < 10) : digB z = true := by
  subst h
  rw [digB_iff]
  have : (UInt8.ofNat (48 + a)).toNat = 48 + a := by rw [UInt8.toNat_ofNat']; omega
  rw [this]; omega
theorem left_str (a b c : UInt8) (x y : Nat) : ({ data := #[a] } : ByteArray) ++ sgS x ++ { data := #[b] } ++ sgS y ++ { data := #[c] } = str (leftT a b c x y) := by
  rw [show ({ data := #[a] } : ByteArray) = str [a] from rfl, show ({ data := #[b] } : ByteArray) = str [b] from rfl, show ({ data := #[c] } : ByteArray) = str [c] from rfl]
  unfold sgS
  rw [str_app, str_app, str_app, str_app]
  simp [leftT]
theorem lres_after {w wr w9 : World} {bD c : Nat} {k0 k1 n0 n1 n2 : Int} {p : PRes} {A : Option Addr} (HW : LW w wr k0 k1 n0 n1 n2) (hb9 : Below wr.drew.heap.size wr.drew w9) (hK : KidsAt w9 (fun g => wr.drew.heap.size ≤ g) p.nd.kids A) :
    LRes w (w9.alloc (.cells #[.int .i64 p.nd.f.k, .int .i64 p.nd.f.vk, .int .i64 p.nd.f.vn, .string p.nd.f.vs, .int .i64 p.nd.f.r1, .int .i64 p.nd.f.r2, .int .i64 p.nd.f.r3, .int .i64 p.nd.f.r4, .string p.nd.f.op, .slice A p.nd.kids.len c] 31)) bD w9.heap.size k0 k1 n0 n1 n2 p (.int .i64 p.at_) (.int .i64 p.err) := by
  have k9 : Kept wr.heap.size wr w9 := ((Kept.refl _ wr).drew 1).trans (Kept.of hb9)
  have hs : w.heap.size + 4 ≤ w9.heap.size := Nat.le_trans HW.size k9.size
  exact ⟨HW.kept (k9.alloc _) HW.size, hs, rfl, rfl, A, c, ⟨heap_alloc_new _ _⟩, hK.keep (y := w9.heap.size) ((Kept.refl _ w9).alloc _) (fun b hb hl => ⟨by omega, by simp; omega⟩)⟩
theorem lres_before {w wr w9 : World} {bD c : Nat} {k0 k1 n0 n1 n2 : Int} {p : PRes} {A : Option Addr} (HW : LW w wr k0 k1 n0 n1 n2) (hb9 : Below ((wr.alloc (.cells #[.int .i64 0, .int .i64 0, .int .i64 0, .string { data := #[] }, .int .i64 0, .int .i64 0, .int .i64 0, .int .i64 0, .string { data := #[] }, .slice none 0 0] 31)).drew).heap.size (wr.alloc (.cells #[.int .i64 0, .int .i64 0, .int .i64 0, .string { data := #[] }, .int .i64 0, .int .i64 0, .int .i64 0, .int .i64 0, .string { data := #[] }, .slice none 0 0] 31)).drew w9) (hK : KidsAt w9 (fun g => ((wr.alloc (.cells #[.int .i64 0, .int .i64 0, .int .i64 0, .string { data := #[] }, .int .i64 0, .int .i64 0, .int .i64 0, .int .i64 0, .string { data := #[] }, .slice none 0 0] 31)).drew).heap.size ≤ g) p.nd.kids A) :
    LRes w ((((((((((w9.setCell ⟨wr.heap.size, 0, none⟩ (.int .i64 p.nd.f.k)).setCell ⟨wr.heap.size, 1, none⟩ (.int .i64 p.nd.f.vk)).setCell ⟨wr.heap.size, 2, none⟩ (.int .i64 p.nd.f.vn)).setCell ⟨wr.heap.size, 3, none⟩ (.string p.nd.f.vs)).setCell ⟨wr.heap.size, 4, none⟩ (.int .i64 p.nd.f.r1)).setCell ⟨wr.heap.size, 5, none⟩ (.int .i64 p.nd.f.r2)).setCell ⟨wr.heap.size, 6, none⟩ (.int .i64 p.nd.f.r3)).setCell ⟨wr.heap.size, 7, none⟩ (.int .i64 p.nd.f.r4)).setCell ⟨wr.heap.size, 8, none⟩ (.string p.nd.f.op)).setCell ⟨wr.heap.size, 9, none⟩ (.slice A p.nd.kids.len c)) bD wr.heap.size k0 k1 n0 n1 n2 p (.int .i64 p.at_) (.int .i64 p.err) := by
  have k9 : Kept wr.heap.size wr w9 := (((Kept.refl _ wr).alloc (.cells #[.int .i64 0, .int .i64 0, .int .i64 0, .string { data := #[] }, .int .i64 0, .int .i64 0, .int .i64 0, .int .i64 0, .string { data := #[] }, .slice none 0 0] 31)).drew 1).trans (Kept.of hb9)
  have kS : Kept wr.heap.size w9 ((((((((((w9.setCell ⟨wr.heap.size, 0, none⟩ (.int .i64 p.nd.f.k)).setCell ⟨wr.heap.size, 1, none⟩ (.int .i64 p.nd.f.vk)).setCell ⟨wr.heap.size, 2, none⟩ (.int .i64 p.nd.f.vn)).setCell ⟨wr.heap.size, 3, none⟩ (.string p.nd.f.vs)).setCell ⟨wr.heap.size, 4, none⟩ (.int .i64 p.nd.f.r1)).setCell ⟨wr.heap.size, 5, none⟩ (.int .i64 p.nd.f.r2)).setCell ⟨wr.heap.size, 6, none⟩ (.int .i64 p.nd.f.r3)).setCell ⟨wr.heap.size, 7, none⟩ (.int .i64 p.nd.f.r4)).setCell ⟨wr.heap.size, 8, none⟩ (.string p.nd.f.op)).setCell ⟨wr.heap.size, 9, none⟩ (.slice A p.nd.kids.len c)) := by repeat (first | with_reducible refine Kept.setCell ?_ _ _ | with_reducible exact Kept.refl _ _)
  have hN : NLoc w9 wr.heap.size fld0 none 0 0 := ⟨(boxed hb9).at_⟩
  have hz : ((wr.alloc (.cells #[.int .i64 0, .int .i64 0, .int .i64 0, .string { data := #[] }, .int .i64 0, .int .i64 0, .int .i64 0, .int .i64 0, .string { data := #[] }, .slice none 0 0] 31)).drew).heap.size = wr.heap.size + 1 := heap_one wr (.cells #[.int .i64 0, .int .i64 0, .int .i64 0, .string { data := #[] }, .int .i64 0, .int .i64 0, .int .i64 0, .int .i64 0, .string { data := #[] }, .slice none 0 0] 31)
  rw [hz] at hK
  have hs := kS.size
  exact ⟨HW.kept (k9.trans kS) HW.size, HW.size, rfl, rfl, A, c, hN.store _ _ _ _, hK.keep kS (fun b hb hl => ⟨by omega, by omega⟩)⟩
theorem rows_le {x y : Nat} (hx : x < 13) (hy : y < 13) : rw_ x ≤ 4 ∧ rw_ y ≤ 4 ∧ 1 ≤ rw_ x ∧ 1 ≤ rw_ y := by
  have h : ∀ x, x < 13 → rw_ x ≤ 4 ∧ 1 ≤ rw_ x := by decide
  exact ⟨(h x hx).1, (h y hy).1, (h x hx).2, (h y hy).2⟩
def pickS (i j : Nat) (a : UInt8) (o : ByteArray) : ByteArray := if j < i then { data := #[a] } else o
set_option maxRecDepth 100000 in
set_option maxHeartbeats 2000000 in
theorem treeLeft (k0 k1 n0 n1 n2 : Int) (hk0 : 0 ≤ k0 ∧ k0 ≤ 255) (hk1 : 0 ≤ k1 ∧ k1 ≤ 255) (hn0 : 0 ≤ n0 ∧ n0 ≤ 255) (hn1 : 0 ≤ n1 ∧ n1 ≤ 255) (hn2 : 0 ≤ n2 ∧ n2 ≤ 255) (w : World) (hl : LexLib w) (hg : ErrT w) :
    Calls Tryz.prog 6 #[.agg #[.int .u8 k0, .int .u8 k1], .agg #[.int .u8 n0, .int .u8 n1, .int .u8 n2]] w fun e w' => e = .returned (.bool true) ∧ Below w.heap.size w w' := by
  have HL := Lib.hid hl
  have HG := Lib.hid hg
  clear hl hg
  obtain ⟨x, hx, hxk⟩ : ∃ x : Nat, x < 13 ∧ k0.tmod 13 = (x : Int) := ⟨(k0.tmod 13).toNat, by have := Int.tmod_lt_of_pos k0 (show (0 : Int) < 13 by decide); omega, by have := Int.tmod_nonneg 13 hk0.1; omega⟩
  obtain ⟨y, hy, hyk⟩ : ∃ y : Nat, y < 13 ∧ k1.tmod 13 = (y : Int) := ⟨(k1.tmod 13).toNat, by have := Int.tmod_lt_of_pos k1 (show (0 : Int) < 13 by decide); omega, by have := Int.tmod_nonneg 13 hk1.1; omega⟩
  obtain ⟨a, ha, han⟩ : ∃ a : Nat, a < 10 ∧ n0.tmod 10 = (a : Int) := ⟨(n0.tmod 10).toNat, by have := Int.tmod_lt_of_pos n0 (show (0 : Int) < 10 by decide); omega, by have := Int.tmod_nonneg 10 hn0.1; omega⟩
  obtain ⟨b, hb, hbn⟩ : ∃ a : Nat, a < 10 ∧ n1.tmod 10 = (a : Int) := ⟨(n1.tmod 10).toNat, by have := Int.tmod_lt_of_pos n1 (show (0 : Int) < 10 by decide); omega, by have := Int.tmod_nonneg 10 hn1.1; omega⟩
  obtain ⟨c, hc, hcn⟩ : ∃ a : Nat, a < 10 ∧ n2.tmod 10 = (a : Int) := ⟨(n2.tmod 10).toNat, by have := Int.tmod_lt_of_pos n2 (show (0 : Int) < 10 by decide); omega, by have := Int.tmod_nonneg 10 hn2.1; omega⟩
  obtain ⟨ba, HBa⟩ : ∃ z, Hid (z = UInt8.ofNat (48 + a)) := ⟨_, Lib.hid rfl⟩
  obtain ⟨bb, HBb⟩ : ∃ z, Hid (z = UInt8.ofNat (48 + b)) := ⟨_, Lib.hid rfl⟩
  obtain ⟨bc, HBc⟩ : ∃ z, Hid (z = UInt8.ofNat (48 + c)) := ⟨_, Lib.hid rfl⟩
  have i0 : IntKind.i64.wrap k0 = k0 := IntWalk.i64_in _ (by omega)
  have i1 : IntKind.i64.wrap k1 = k1 := IntWalk.i64_in _ (by omega)
  have i2 : IntKind.i64.wrap (x : Int) = x := IntWalk.i64_in _ (by omega)
  have i3 : IntKind.i64.wrap (y : Int) = y := IntWalk.i64_in _ (by omega)
  have hk0' := hk0.1
  have hk1' := hk1.1
  have H0 := LW.start w k0 k1 n0 n1 n2
  unfold sgCells rwCells at H0
  go_enter Tryz.func6, Tryz.ntmps6
  go_wp2_with fail
  generalize ((((w.alloc (.cells #[.int .u8 k0, .int .u8 k1] 42)).alloc (.cells #[.int .u8 n0, .int .u8 n1, .int .u8 n2] 43)).alloc (.cells #[.string { data := #[61] }, .string { data := #[60, 62] }, .string { data := #[60] }, .string { data := #[60, 61] }, .string { data := #[62] }, .string { data := #[62, 61] }, .string { data := #[43] }, .string { data := #[45] }, .string { data := #[38] }, .string { data := #[42] }, .string { data := #[47] }, .string { data := #[37] }, .string { data := #[94] }] 9)).alloc (.cells #[.int .i64 1, .int .i64 1, .int .i64 1, .int .i64 1, .int .i64 1, .int .i64 1, .int .i64 2, .int .i64 2, .int .i64 2, .int .i64 3, .int .i64 3, .int .i64 3, .int .i64 4] 3)) = V0 at *
  have c20 := H0.k0
  have c21 := H0.k1
  go_quiet (fail)
  have H1 : LW w (V0.drewN nq) k0 k1 n0 n1 n2 := H0.kept ((Kept.refl (w.heap.size + 4) V0).drew nq) (Nat.le_refl _)
  clear c20 c21 H0
  generalize V0.drewN nq = V1 at *
  have hD : w.heap.size + 4 ≤ V1.heap.size := H1.size
  have D0 : DB (V1.alloc (.cells #[.string { data := #[49] }, .string { data := #[50] }, .string { data := #[51] }] 46)) V1.heap.size { data := #[49] } { data := #[50] } { data := #[51] } := ⟨heap_alloc_new _ _⟩
  have H2 : LW w (V1.alloc (.cells #[.string { data := #[49] }, .string { data := #[50] }, .string { data := #[51] }] 46)) k0 k1 n0 n1 n2 := H1.kept ((Kept.refl V1.heap.size V1).alloc _) hD
  clear H1
  go_wp2_with fail
  generalize hbD : V1.heap.size = bD at *
  generalize (V1.alloc (.cells #[.string { data := #[49] }, .string { data := #[50] }, .string { data := #[51] }] 46)) = V2 at *
  clear hbD
  go_loopw [10] (fun iv wr => ∃ i : Nat, i ≤ 3 ∧ iv = .int .i64 i ∧ LW w wr k0 k1 n0 n1 n2 ∧ DB wr bD (pickS i 0 ba { data := #[49] }) (pickS i 1 bb { data := #[50] }) (pickS i 2 bc { data := #[51] })) (fun iv _ => 3 - (intOf iv).toNat)
  case atStart => exact ⟨0, by omega, rfl, H2, D0⟩
  case round =>
    clear H2 D0
    obtain ⟨i, hi, rfl, HW, HD⟩ := hrel
    have lt1 := HD.lt
    have h0123 : i = 0 ∨ i = 1 ∨ i = 2 ∨ i = 3 := by omega
    rcases h0123 with rfl | rfl | rfl | rfl
    · have w4 : IntKind.u8.wrap (a : Int) = a := by unfold IntKind.wrap; simp [IntKind.signed, IntKind.bits]; omega
      have w5 : IntKind.u8.wrap (48 + (a : Int)) = 48 + a := by unfold IntKind.wrap; simp [IntKind.signed, IntKind.bits]; omega
      have kc := fun (W : World) (m : Nat) => conv_one W (48 + (a : Int)) m
      rw [show (48 + (a : Int)).toNat = 48 + a from by omega, ← HBa.out] at kc
      have c3 := HW.n0
      obtain ⟨e0, e1, e2, z0, z1, z2⟩ := (HD.grow (y := wr.heap.size) ((Kept.refl _ wr).alloc (.cells #[.int .u8 (48 + (a : Int))] 5)) (by omega)).cells
      have DN := (HD.set0 { data := #[ba] }).grow ((Kept.refl _ _).alloc (.cells #[.int .u8 (48 + (a : Int))] 5)) (Nat.ne_of_lt (HD.set0 { data := #[ba] }).lt)
      have WN := HW.kept (((Kept.refl bD wr).setCell 0 (.string { data := #[ba] })).alloc (.cells #[.int .u8 (48 + (a : Int))] 5)) hD
      clear HW HD
      go_wp2_with fail
      go_roundw
      case rel => exact ⟨1, by omega, by go_num, WN, DN⟩
      case measure => simp [intOf]
    · have w4 : IntKind.u8.wrap (b : Int) = b := by unfold IntKind.wrap; simp [IntKind.signed, IntKind.bits]; omega
      have w5 : IntKind.u8.wrap (48 + (b : Int)) = 48 + b := by unfold IntKind.wrap; simp [IntKind.signed, IntKind.bits]; omega
      have kc := fun (W : World) (m : Nat) => conv_one W (48 + (b : Int)) m
      rw [show (48 + (b : Int)).toNat = 48 + b from by omega, ← HBb.out] at kc
      have c3 := HW.n1
      obtain ⟨e0, e1, e2, z0, z1, z2⟩ := (HD.grow (y := wr.heap.size) ((Kept.refl _ wr).alloc (.cells #[.int .u8 (48 + (b : Int))] 5)) (by omega)).cells
      have DN := (HD.set1 { data := #[bb] }).grow ((Kept.refl _ _).alloc (.cells #[.int .u8 (48 + (b : Int))] 5)) (Nat.ne_of_lt (HD.set1 { data := #[bb] }).lt)
      have WN := HW.kept (((Kept.refl bD wr).setCell 1 (.string { data := #[bb] })).alloc (.cells #[.int .u8 (48 + (b : Int))] 5)) hD
      clear HW HD
      go_wp2_with fail
      go_roundw
      case rel => exact ⟨2, by omega, by go_num, WN, DN⟩
      case measure => simp [intOf]
    · have w4 : IntKind.u8.wrap (c : Int) = c := by unfold IntKind.wrap; simp [IntKind.signed, IntKind.bits]; omega
      have w5 : IntKind.u8.wrap (48 + (c : Int)) = 48 + c := by unfold IntKind.wrap; simp [IntKind.signed, IntKind.bits]; omega
      have kc := fun (W : World) (m : Nat) => conv_one W (48 + (c : Int)) m
      rw [show (48 + (c : Int)).toNat = 48 + c from by omega, ← HBc.out] at kc
      have c3 := HW.n2
      obtain ⟨e0, e1, e2, z0, z1, z2⟩ := (HD.grow (y := wr.heap.size) ((Kept.refl _ wr).alloc (.cells #[.int .u8 (48 + (c : Int))] 5)) (by omega)).cells
      have DN := (HD.set2 { data := #[bc] }).grow ((Kept.refl _ _).alloc (.cells #[.int .u8 (48 + (c : Int))] 5)) (Nat.ne_of_lt (HD.set2 { data := #[bc] }).lt)
      have WN := HW.kept (((Kept.refl bD wr).setCell 2 (.string { data := #[bc] })).alloc (.cells #[.int .u8 (48 + (c : Int))] 5)) hD
      clear HW HD
      go_wp2_with fail
      go_roundw
      case rel => exact ⟨3, by omega, by go_num, WN, DN⟩
      case measure => simp [intOf]
    · have D9 : DB wr.drew bD { data := #[ba] } { data := #[bb] } { data := #[bc] } := (show DB wr bD { data := #[ba] } { data := #[bb] } { data := #[bc] } from HD).grow ((Kept.refl wr.heap.size wr).drew 1) (Nat.ne_of_lt lt1)
      have W9 : LW w wr.drew k0 k1 n0 n1 n2 := HW.kept ((Kept.refl (w.heap.size + 4) wr).drew 1) (Nat.le_refl _)
      have hx0 := sg_len x hx
      have hy0 := sg_len y hy
      have zx : (sgS x).size = (sg x).length := str_len _
      have zy : (sgS y).size = (sg y).length := str_len _
      have p1 : (9223372036854775807 < 1 + (sgS x).size) = False := eq_false (by omega)
      have p2 : (9223372036854775807 < 1 + (sgS x).size + 1) = False := eq_false (by omega)
      have p3 : (9223372036854775807 < 1 + (sgS x).size + 1 + (sgS y).size) = False := eq_false (by omega)
      have p4 : (9223372036854775807 < 1 + (sgS x).size + 1 + (sgS y).size + 1) = False := eq_false (by omega)
      have HR := Lib.hid (left_parse ba bb bc x y (dig_ok HBa.out ha) (dig_ok HBb.out hb) (dig_ok HBc.out hc) hx hy)
      have rS := left_str ba bb bc x y
      have B9 : Below w.heap.size w wr.drew := W9.below
      have zP : (str (leftT ba bb bc x y)).size ≤ 1000000 := by rw [str_len]; simp [leftT]; omega
      have HP := Lib.hid (fun (V : World) (hb : Below w.heap.size w V) => cParse (str (leftT ba bb bc x y)) V zP (HL.out.below hb) (HG.out.below hb))
      have HX0 := Lib.hid (And.intro hx (And.intro hy (And.intro hx0 (And.intro hy0 hD))))
      clear HD zx zy hx0 hy0 HBa HBb HBc zP i0 i1 i2 i3 hxk hyk han hbn hcn hk0 hk1 hn0 hn1 hn2 hk0' hk1'
      have S0 : SC wr.drew bD (w.heap.size + 1 + 1) x y { data := #[ba] } { data := #[bb] } { data := #[bc] } := ⟨D9.cells.1, D9.cells.2.1, D9.cells.2.2.1, W9.sg x hx, W9.sg y hy⟩
      have S00 : SC wr bD (w.heap.size + 1 + 1) x y { data := #[ba] } { data := #[bb] } { data := #[bc] } := ⟨S0.d0, S0.d1, S0.d2, S0.x_, S0.y_⟩
      have S2 := S00.kept (z := wr.heap.size) ((Kept.refl _ _).alloc (.cells #[.int .i64 0, .int .i64 0, .int .i64 0, .string { data := #[] }, .int .i64 0, .int .i64 0, .int .i64 0, .int .i64 0, .string { data := #[] }, .slice none 0 0] 31)) (Nat.ne_of_lt lt1) (by have := W9.size; simp at this; omega)
      have SA : SC (wr.alloc (.cells #[.int .i64 0, .int .i64 0, .int .i64 0, .string { data := #[] }, .int .i64 0, .int .i64 0, .int .i64 0, .int .i64 0, .string { data := #[] }, .slice none 0 0] 31)).drew bD (w.heap.size + 1 + 1) x y { data := #[ba] } { data := #[bb] } { data := #[bc] } := ⟨S2.d0, S2.d1, S2.d2, S2.x_, S2.y_⟩
      have B00 : Below w.heap.size w wr := ⟨B9.os, B9.tape, B9.output, B9.size, B9.block⟩
      have BA : Below w.heap.size w (wr.alloc (.cells #[.int .i64 0, .int .i64 0, .int .i64 0, .string { data := #[] }, .int .i64 0, .int .i64 0, .int .i64 0, .int .i64 0, .string { data := #[] }, .slice none 0 0] 31)).drew := below_drewN' (B00.alloc B00.size (.cells #[.int .i64 0, .int .i64 0, .int .i64 0, .string { data := #[] }, .int .i64 0, .int .i64 0, .int .i64 0, .int .i64 0, .string { data := #[] }, .slice none 0 0] 31)) 1
      clear S2 S00
      have nD : bD < wr.heap.size := lt1
      have nS : w.heap.size + 1 + 1 < wr.heap.size := by have := W9.size; simp at this; omega
      have x0 : (0 : Int) ≤ (x : Int) := Int.natCast_nonneg _
      have x1 : (x : Int) < 13 := by omega
      have y0 : (0 : Int) ≤ (y : Int) := Int.natCast_nonneg _
      have y1 : (y : Int) < 13 := by omega
      rw [str_list] at HP
      go_upto_region 9 with fail
      go_cut [11, 12, 13] from 39 to 61 (fun s11 s12 s13 wc => ∃ hb, s11 = .pointer (some ⟨hb, 0, none⟩) ∧ LRes w wc bD hb k0 k1 n0 n1 n2 (parseL (leftT ba bb bc x y)) s12 s13)
      case first =>
        go_region_held3 (fun w' => w'.cell? ⟨bD, 0, none⟩ = some (.string { data := #[ba] }) ∧ w'.cell? ⟨bD, 1, none⟩ = some (.string { data := #[bb] }) ∧ w'.cell? ⟨bD, 2, none⟩ = some (.string { data := #[bc] }) ∧ w'.cell? ⟨w.heap.size + 1 + 1, x, none⟩ = some (.string (sgS x)) ∧ w'.cell? ⟨w.heap.size + 1 + 1, y, none⟩ = some (.string (sgS y)))
          (first | with_reducible exact S0.five | with_reducible exact SA.five | with_reducible exact S1.five | (refine (S1.kept (z := w9.heap.size) ?_ (by omega) (by omega)).five; (repeat (first | with_reducible exact Kept.refl _ _ | with_reducible refine Kept.setCell ?_ _ _ | with_reducible refine Kept.alloc ?_ _)); done) | (refine (S1.kept (z := wr.heap.size) ?_ (by omega) (by omega)).five; (repeat (first | with_reducible exact Kept.refl _ _ | with_reducible refine Kept.setCell ?_ _ _ | with_reducible refine Kept.alloc ?_ _)); done) | (refine (S0.kept (z := wr.heap.size) ?_ (by omega) (by omega)).five; (repeat (first | with_reducible exact Kept.refl _ _ | with_reducible refine Kept.setCell ?_ _ _ | with_reducible refine Kept.alloc ?_ _)); done))
          ((go_at_call 10; refine (HP.out _ (by first | with_reducible exact B9 | with_reducible exact BA)).mono ?_; rintro e w9 ⟨v, rfl, hb9, A, c, rfl, hK⟩; have S1 : SC w9 bD (w.heap.size + 1 + 1) x y { data := #[ba] } { data := #[bb] } { data := #[bc] } := (by first | with_reducible exact S0.below hb9 | with_reducible exact SA.below hb9); (first | (with_reducible have nb9 := boxed hb9; obtain ⟨b0, b1, b2, b3, b4, b5, b6, b7, b8, b9, v0, v1, v2, v3, v4, v5, v6, v7, v8, v9⟩ := nb9.cells) | skip); unfold nodeV))
        all_goals (go_wp2_with fail)
        all_goals (go_meet)
        all_goals (first | with_reducible exact ⟨_, rfl, lres_after HW hb9 hK⟩ | with_reducible exact ⟨_, rfl, lres_before HW hb9 hK⟩)
      case rest =>
      obtain ⟨nb, rfl, hres⟩ := hcut
      obtain ⟨lw, hlt, rfl, rfl, A, c, hN, hK⟩ := hres
      have HWK := Lib.hid (fun (W : World) (hb : Below w.heap.size w W) => cwakes W (HL.out.below hb) (HG.out.below hb))
      have hR := HR.out
      clear S0 SA W9 D9 B9 BA B00 rS p1 p2 p3 p4 HP HW HR nD nS HX0 lt1 hD hi
      generalize parseL (leftT ba bb bc x y) = p at *
      have r1 := lw.rw x hx
      have r2 := lw.rw y hy
      have s1 := lw.sg x hx
      have s2 := lw.sg y hy
      have hXY : rw_ x ≤ 4 ∧ rw_ y ≤ 4 ∧ 1 ≤ rw_ x ∧ 1 ≤ rw_ y := rows_le hx hy
      rcases hR with ⟨hx1, hy1, herr⟩ | ⟨hne, rfl⟩
      · obtain ⟨⟨f, kd⟩, a1, e1⟩ := p
        simp only at herr hN hK
        subst herr
        rw [hx1] at r1
        rw [hy1] at r2
        have BW := lw.below
        clear lw hXY
        go_wp2_with fail
        refine (HWK.out _ BW).mono ?_; rintro e w6 ⟨rfl, hb6⟩
        go_wp2_with fail
        go_ret
        exact ⟨rfl, BW.trans (hb6.mono BW.size)⟩
      · simp only at hN hK
        have HGL : Hid (goesLeft x y = (decide (rw_ y < rw_ x) || (decide (rw_ x = rw_ y) && decide (rw_ x ≠ 4)))) := Lib.hid rfl
        have HLN : Hid (leftN (digV ba) (digV bb) (digV bc) x y = if goesLeft x y = true then pairN (sg y) (pairN (sg x) (constN 2 (digV ba) nob) (constN 2 (digV bb) nob)) (constN 2 (digV bc) nob) else pairN (sg x) (constN 2 (digV ba) nob) (pairN (sg y) (constN 2 (digV bb) nob) (constN 2 (digV bc) nob))) := Lib.hid rfl
        generalize leftN (digV ba) (digV bb) (digV bc) x y = ln at *
        generalize goesLeft x y = gl at *
        generalize rw_ x = X at *
        generalize rw_ y = Y at *
        have hX0 : (0 : Int) ≤ (X : Int) := Int.natCast_nonneg _
        have hY0 : (0 : Int) ≤ (Y : Int) := Int.natCast_nonneg _
        by_cases c1 : Y < X
        · have tX : ((X : Int) == 1) = false := by simp; omega
          have g1 : decide ((Y : Int) < (X : Int)) = true := by simp; omega
          have g1n : decide (Y < X) = true := by simp; omega
          have hgl : gl = true := by rw [HGL.out]; simp; omega
          have hln := HLN.out.trans (if_pos hgl)
          subst hln
          have hN2 : NLoc wc nb (pairFld (sgS y)) A 2 c := hN
          have hK2 : KidsAt wc (fun g => g < wc.heap.size) (.cons (pairFld (sgS x)) ((constN 2 (digV ba) nob).one.app (constN 2 (digV bb) nob).one) (.cons (constN 2 (digV bc) nob).f .nil .nil)) A := hK
          obtain ⟨gA, oA, rfl, hrow⟩ := kids_row hK2 (i := 0) (by simp [Fo.len])
          obtain ⟨A0, c0, -, -, u0, -, -, -, -, -, -, -, u8, -⟩ := RowAt.nth _ gA oA 0 hrow (by simp [Fo.len])
          obtain ⟨A1, c1_, -, -, v0, -, -, -, -, -, -, -, v8, -⟩ := RowAt.nth _ gA oA 1 hrow (by simp [Fo.len])
          have aop : wc.cell? ⟨gA, oA + 8, none⟩ = some (.string (sgS x)) := by rw [show oA + 8 = oA + 0 * 10 + 8 from by omega]; exact u8
          have aki : wc.cell? ⟨gA, oA + 10, none⟩ = some (.int .i64 1) := by rw [show oA + 10 = oA + 1 * 10 from by omega]; exact v0
          clear u0 u8 v0 v8 hrow hK2 hK hN HLN HGL hgl
          obtain ⟨d0, d1, d2, d3, d4, d5, d6, d7, d8, d9, -⟩ := hN2.cells
          go_wp2_with fail
          go_quiet (fail)
          go_wp2_with fail
          have lw2 : LW w (World.drew (wc.drewN nq)) k0 k1 n0 n1 n2 := lw.kept (((Kept.refl (w.heap.size + 4) wc).drew nq).drew 1) (Nat.le_refl _)
          have hN3 : NLoc (World.drew (wc.drewN nq)) nb (pairFld (sgS y)) (some ⟨gA, oA, none⟩) 2 c := ⟨hN2.at_⟩
          have aop2 : (World.drew (wc.drewN nq)).cell? ⟨gA, oA + 8, none⟩ = some (.string (sgS x)) := aop
          have aki2 : (World.drew (wc.drewN nq)).cell? ⟨gA, oA + 10, none⟩ = some (.int .i64 1) := aki
          refine region_tail 28 (by kernel_rfl) (by kernel_rfl) ?_
          simp only [List.take_succ_cons, List.take_zero, List.drop_succ_cons, List.drop_zero]
          generalize World.drew (wc.drewN nq) = U at *
          clear d0 d1 d2 d3 d4 d5 d6 d7 d8 d9 r1 r2 s1 s2 aop aki
          have s1 := lw2.sg x hx
          have s2 := lw2.sg y hy
          have BW := lw2.below
          obtain ⟨d0, d1, d2, d3, d4, d5, d6, d7, d8, d9, -⟩ := hN3.cells
          clear lw lw2
          replace d8 : U.cell? ⟨nb, 8, none⟩ = some (.string (sgS y)) := d8
          repeat still_step
          refine wpStill_nil ?_
          go_wp2_with fail
          refine (HWK.out _ BW).mono ?_; rintro e w6 ⟨rfl, hb6⟩
          go_wp2_with fail
          go_ret
          exact ⟨rfl, BW.trans (hb6.mono BW.size)⟩
        · by_cases c2 : X = Y
          · by_cases c3 : X = 4
            · have tX : ((X : Int) == 1) = false := by simp; omega
              have g1 : decide ((Y : Int) < (X : Int)) = false := by simp; omega
              have g1n : decide (Y < X) = false := by simp; omega
              have g2 : ((X : Int) == (Y : Int)) = true := by simp; omega
              have g3 : ((X : Int) != 4) = false := by simp; omega
              have hgl : gl = false := by rw [HGL.out]; simp; omega
              have hln := HLN.out.trans (if_neg (by rw [hgl]; exact Bool.false_ne_true))
              subst hln
              have hN2 : NLoc wc nb (pairFld (sgS x)) A 2 c := hN
              have hK2 : KidsAt wc (fun g => g < wc.heap.size) (.cons (constN 2 (digV ba) nob).f .nil (.cons (pairFld (sgS y)) ((constN 2 (digV bb) nob).one.app (constN 2 (digV bc) nob).one) .nil)) A := hK
              obtain ⟨gA, oA, rfl, hrow⟩ := kids_row hK2 (i := 0) (by simp [Fo.len])
              obtain ⟨A0, c0, -, -, u0, -, -, -, -, -, -, -, u8, -⟩ := RowAt.nth _ gA oA 0 hrow (by simp [Fo.len])
              obtain ⟨A1, c1_, -, -, v0, -, -, -, -, -, -, -, v8, -⟩ := RowAt.nth _ gA oA 1 hrow (by simp [Fo.len])
              have aop : wc.cell? ⟨gA, oA + 10 + 8, none⟩ = some (.string (sgS y)) := by rw [show oA + 10 + 8 = oA + 1 * 10 + 8 from by omega]; exact v8
              have aki : wc.cell? ⟨gA, oA, none⟩ = some (.int .i64 1) := by rw [show oA = oA + 0 * 10 from by omega]; exact u0
              clear u0 u8 v0 v8 hrow hK2 hK hN HLN HGL hgl
              obtain ⟨d0, d1, d2, d3, d4, d5, d6, d7, d8, d9, -⟩ := hN2.cells
              go_wp2_with fail
              go_quiet (fail)
              go_wp2_with fail
              have lw2 : LW w (World.drew (wc.drewN nq)) k0 k1 n0 n1 n2 := lw.kept (((Kept.refl (w.heap.size + 4) wc).drew nq).drew 1) (Nat.le_refl _)
              have hN3 : NLoc (World.drew (wc.drewN nq)) nb (pairFld (sgS x)) (some ⟨gA, oA, none⟩) 2 c := ⟨hN2.at_⟩
              have aop2 : (World.drew (wc.drewN nq)).cell? ⟨gA, oA + 10 + 8, none⟩ = some (.string (sgS y)) := aop
              have aki2 : (World.drew (wc.drewN nq)).cell? ⟨gA, oA, none⟩ = some (.int .i64 1) := aki
              refine region_tail 28 (by kernel_rfl) (by kernel_rfl) ?_
              simp only [List.take_succ_cons, List.take_zero, List.drop_succ_cons, List.drop_zero]
              generalize World.drew (wc.drewN nq) = U at *
              clear d0 d1 d2 d3 d4 d5 d6 d7 d8 d9 r1 r2 s1 s2 aop aki
              have s1 := lw2.sg x hx
              have s2 := lw2.sg y hy
              have BW := lw2.below
              obtain ⟨d0, d1, d2, d3, d4, d5, d6, d7, d8, d9, -⟩ := hN3.cells
              clear lw lw2
              replace d8 : U.cell? ⟨nb, 8, none⟩ = some (.string (sgS x)) := d8
              repeat still_step
              refine wpStill_nil ?_
              go_wp2_with fail
              refine (HWK.out _ BW).mono ?_; rintro e w6 ⟨rfl, hb6⟩
              go_wp2_with fail
              go_ret
              exact ⟨rfl, BW.trans (hb6.mono BW.size)⟩
            · have tX : ((X : Int) == 1) = false := by simp; omega
              have g1 : decide ((Y : Int) < (X : Int)) = false := by simp; omega
              have g1n : decide (Y < X) = false := by simp; omega
              have g2 : ((X : Int) == (Y : Int)) = true := by simp; omega
              have g3 : ((X : Int) != 4) = true := by simp; omega
              have hgl : gl = true := by rw [HGL.out]; simp; omega
              have hln := HLN.out.trans (if_pos hgl)
              subst hln
              have hN2 : NLoc wc nb (pairFld (sgS y)) A 2 c := hN
              have hK2 : KidsAt wc (fun g => g < wc.heap.size) (.cons (pairFld (sgS x)) ((constN 2 (digV ba) nob).one.app (constN 2 (digV bb) nob).one) (.cons (constN 2 (digV bc) nob).f .nil .nil)) A := hK
              obtain ⟨gA, oA, rfl, hrow⟩ := kids_row hK2 (i := 0) (by simp [Fo.len])
              obtain ⟨A0, c0, -, -, u0, -, -, -, -, -, -, -, u8, -⟩ := RowAt.nth _ gA oA 0 hrow (by simp [Fo.len])
              obtain ⟨A1, c1_, -, -, v0, -, -, -, -, -, -, -, v8, -⟩ := RowAt.nth _ gA oA 1 hrow (by simp [Fo.len])
              have aop : wc.cell? ⟨gA, oA + 8, none⟩ = some (.string (sgS x)) := by rw [show oA + 8 = oA + 0 * 10 + 8 from by omega]; exact u8
              have aki : wc.cell? ⟨gA, oA + 10, none⟩ = some (.int .i64 1) := by rw [show oA + 10 = oA + 1 * 10 from by omega]; exact v0
              clear u0 u8 v0 v8 hrow hK2 hK hN HLN HGL hgl
              obtain ⟨d0, d1, d2, d3, d4, d5, d6, d7, d8, d9, -⟩ := hN2.cells
              go_wp2_with fail
              go_quiet (fail)
              go_wp2_with fail
              have lw2 : LW w (World.drew (wc.drewN nq)) k0 k1 n0 n1 n2 := lw.kept (((Kept.refl (w.heap.size + 4) wc).drew nq).drew 1) (Nat.le_refl _)
              have hN3 : NLoc (World.drew (wc.drewN nq)) nb (pairFld (sgS y)) (some ⟨gA, oA, none⟩) 2 c := ⟨hN2.at_⟩
              have aop2 : (World.drew (wc.drewN nq)).cell? ⟨gA, oA + 8, none⟩ = some (.string (sgS x)) := aop
              have aki2 : (World.drew (wc.drewN nq)).cell? ⟨gA, oA + 10, none⟩ = some (.int .i64 1) := aki
              refine region_tail 28 (by kernel_rfl) (by kernel_rfl) ?_
              simp only [List.take_succ_cons, List.take_zero, List.drop_succ_cons, List.drop_zero]
              generalize World.drew (wc.drewN nq) = U at *
              clear d0 d1 d2 d3 d4 d5 d6 d7 d8 d9 r1 r2 s1 s2 aop aki
              have s1 := lw2.sg x hx
              have s2 := lw2.sg y hy
              have BW := lw2.below
              obtain ⟨d0, d1, d2, d3, d4, d5, d6, d7, d8, d9, -⟩ := hN3.cells
              clear lw lw2
              replace d8 : U.cell? ⟨nb, 8, none⟩ = some (.string (sgS y)) := d8
              repeat still_step
              refine wpStill_nil ?_
              go_wp2_with fail
              refine (HWK.out _ BW).mono ?_; rintro e w6 ⟨rfl, hb6⟩
              go_wp2_with fail
              go_ret
              exact ⟨rfl, BW.trans (hb6.mono BW.size)⟩
          · by_cases c4 : X = 1
            · subst c4
              rw [show (((1 : Nat) : Int)) = 1 from rfl] at r1
              have g1 : decide ((Y : Int) < 1) = false := by simp; omega
              have g2 : ((1 : Int) == (Y : Int)) = false := by simp; omega
              have g2b : ((Y : Int) == 1) = false := by simp; omega
              have tY : ((Y : Int) == 1) = false := by simp; omega
              have hgl : gl = false := by rw [HGL.out]; simp; omega
              have hln := HLN.out.trans (if_neg (by rw [hgl]; exact Bool.false_ne_true))
              subst hln
              have hN2 : NLoc wc nb (pairFld (sgS x)) A 2 c := hN
              have hK2 : KidsAt wc (fun g => g < wc.heap.size) (.cons (constN 2 (digV ba) nob).f .nil (.cons (pairFld (sgS y)) ((constN 2 (digV bb) nob).one.app (constN 2 (digV bc) nob).one) .nil)) A := hK
              obtain ⟨gA, oA, rfl, hrow⟩ := kids_row hK2 (i := 0) (by simp [Fo.len])
              obtain ⟨A0, c0, -, -, u0, -, -, -, -, -, -, -, u8, -⟩ := RowAt.nth _ gA oA 0 hrow (by simp [Fo.len])
              obtain ⟨A1, c1_, -, -, v0, -, -, -, -, -, -, -, v8, -⟩ := RowAt.nth _ gA oA 1 hrow (by simp [Fo.len])
              have aop : wc.cell? ⟨gA, oA + 10 + 8, none⟩ = some (.string (sgS y)) := by rw [show oA + 10 + 8 = oA + 1 * 10 + 8 from by omega]; exact v8
              have aki : wc.cell? ⟨gA, oA, none⟩ = some (.int .i64 1) := by rw [show oA = oA + 0 * 10 from by omega]; exact u0
              clear u0 u8 v0 v8 hrow hK2 hK hN HLN HGL hgl
              obtain ⟨d0, d1, d2, d3, d4, d5, d6, d7, d8, d9, -⟩ := hN2.cells
              go_wp2_with fail
              go_quiet (fail)
              go_wp2_with fail
              have lw2 : LW w (World.drew (wc.drewN nq)) k0 k1 n0 n1 n2 := lw.kept (((Kept.refl (w.heap.size + 4) wc).drew nq).drew 1) (Nat.le_refl _)
              have hN3 : NLoc (World.drew (wc.drewN nq)) nb (pairFld (sgS x)) (some ⟨gA, oA, none⟩) 2 c := ⟨hN2.at_⟩
              have aop2 : (World.drew (wc.drewN nq)).cell? ⟨gA, oA + 10 + 8, none⟩ = some (.string (sgS y)) := aop
              have aki2 : (World.drew (wc.drewN nq)).cell? ⟨gA, oA, none⟩ = some (.int .i64 1) := aki
              refine region_tail 28 (by kernel_rfl) (by kernel_rfl) ?_
              simp only [List.take_succ_cons, List.take_zero, List.drop_succ_cons, List.drop_zero]
              generalize World.drew (wc.drewN nq) = U at *
              clear d0 d1 d2 d3 d4 d5 d6 d7 d8 d9 r1 r2 s1 s2 aop aki
              have s1 := lw2.sg x hx
              have s2 := lw2.sg y hy
              have BW := lw2.below
              obtain ⟨d0, d1, d2, d3, d4, d5, d6, d7, d8, d9, -⟩ := hN3.cells
              clear lw lw2
              replace d8 : U.cell? ⟨nb, 8, none⟩ = some (.string (sgS x)) := d8
              repeat still_step
              refine wpStill_nil ?_
              go_wp2_with fail
              refine (HWK.out _ BW).mono ?_; rintro e w6 ⟨rfl, hb6⟩
              go_wp2_with fail
              go_ret
              exact ⟨rfl, BW.trans (hb6.mono BW.size)⟩
            · have tX : ((X : Int) == 1) = false := by simp; omega
              have g1 : decide ((Y : Int) < (X : Int)) = false := by simp; omega
              have g1n : decide (Y < X) = false := by simp; omega
              have g2 : ((X : Int) == (Y : Int)) = false := by simp; omega
              have hgl : gl = false := by rw [HGL.out]; simp; omega
              have hln := HLN.out.trans (if_neg (by rw [hgl]; exact Bool.false_ne_true))
              subst hln
              have hN2 : NLoc wc nb (pairFld (sgS x)) A 2 c := hN
              have hK2 : KidsAt wc (fun g => g < wc.heap.size) (.cons (constN 2 (digV ba) nob).f .nil (.cons (pairFld (sgS y)) ((constN 2 (digV bb) nob).one.app (constN 2 (digV bc) nob).one) .nil)) A := hK
              obtain ⟨gA, oA, rfl, hrow⟩ := kids_row hK2 (i := 0) (by simp [Fo.len])
              obtain ⟨A0, c0, -, -, u0, -, -, -, -, -, -, -, u8, -⟩ := RowAt.nth _ gA oA 0 hrow (by simp [Fo.len])
              obtain ⟨A1, c1_, -, -, v0, -, -, -, -, -, -, -, v8, -⟩ := RowAt.nth _ gA oA 1 hrow (by simp [Fo.len])
              have aop : wc.cell? ⟨gA, oA + 10 + 8, none⟩ = some (.string (sgS y)) := by rw [show oA + 10 + 8 = oA + 1 * 10 + 8 from by omega]; exact v8
              have aki : wc.cell? ⟨gA, oA, none⟩ = some (.int .i64 1) := by rw [show oA = oA + 0 * 10 from by omega]; exact u0
              clear u0 u8 v0 v8 hrow hK2 hK hN HLN HGL hgl
              obtain ⟨d0, d1, d2, d3, d4, d5, d6, d7, d8, d9, -⟩ := hN2.cells
              go_wp2_with fail
              go_quiet (fail)
              go_wp2_with fail
              have lw2 : LW w (World.drew (wc.drewN nq)) k0 k1 n0 n1 n2 := lw.kept (((Kept.refl (w.heap.size + 4) wc).drew nq).drew 1) (Nat.le_refl _)
              have hN3 : NLoc (World.drew (wc.drewN nq)) nb (pairFld (sgS x)) (some ⟨gA, oA, none⟩) 2 c := ⟨hN2.at_⟩
              have aop2 : (World.drew (wc.drewN nq)).cell? ⟨gA, oA + 10 + 8, none⟩ = some (.string (sgS y)) := aop
              have aki2 : (World.drew (wc.drewN nq)).cell? ⟨gA, oA, none⟩ = some (.int .i64 1) := aki
              refine region_tail 28 (by kernel_rfl) (by kernel_rfl) ?_
              simp only [List.take_succ_cons, List.take_zero, List.drop_succ_cons, List.drop_zero]
              generalize World.drew (wc.drewN nq) = U at *
              clear d0 d1 d2 d3 d4 d5 d6 d7 d8 d9 r1 r2 s1 s2 aop aki
              have s1 := lw2.sg x hx
              have s2 := lw2.sg y hy
              have BW := lw2.below
              obtain ⟨d0, d1, d2, d3, d4, d5, d6, d7, d8, d9, -⟩ := hN3.cells
              clear lw lw2
              replace d8 : U.cell? ⟨nb, 8, none⟩ = some (.string (sgS x)) := d8
              repeat still_step
              refine wpStill_nil ?_
              go_wp2_with fail
              refine (HWK.out _ BW).mono ?_; rintro e w6 ⟨rfl, hb6⟩
              go_wp2_with fail
              go_ret
              exact ⟨rfl, BW.trans (hb6.mono BW.size)⟩
end Go.Proofs.YtkdgiadpmfpjnaaGreatDoor.TreeC
