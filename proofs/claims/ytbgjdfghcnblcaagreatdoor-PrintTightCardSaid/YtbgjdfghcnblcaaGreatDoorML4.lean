/-
  The walk of PrintTight.
-/
import Derived.Test.YtbgjdfghcnblcaaGreatDoorMPB
import Derived.Test.YtbgjdfghcnblcaaGreatDoorMO
import Derived.Test.YtbgjdfghcnblcaaGreatDoorMNumG
import Derived.Deep.RegionHeld3
import Derived.Deep.CutRange
import Derived.Deep.RegionWith
namespace Go.Proofs.YtbgjdfghcnblcaaGreatDoor.PrintC
set_option linter.unusedVariables false
open Go.RowKit Go.Proofs.YtbgjdfghcnblcaaGreatDoor.NumC Go.Proofs.YtbgjdfghcnblcaaGreatDoor.LexC Go.Proofs.YtbgjdfghcnblcaaGreatDoor.TreeC

def sg4L (x : Nat) : List UInt8 := [[61], [43], [42], [94]].getD x []
def sg4 (x : Nat) : ByteArray := str (sg4L x)
theorem sg4_cell (x : Nat) (h : x < 4) (W : World) : (W.alloc (.cells #[.string { data := #[61] }, .string { data := #[43] }, .string { data := #[42] }, .string { data := #[94] }] 9)).cell? ⟨W.heap.size, x, none⟩ = some (.string (sg4 x)) := by
  rw [World.cell?_alloc_mark]
  have h4 : x = 0 ∨ x = 1 ∨ x = 2 ∨ x = 3 := by omega
  rcases h4 with rfl | rfl | rfl | rfl <;> rfl
theorem conv_one6 (W : World) (v : Int) (c : Nat) : (convert 45 9 (.slice (some ⟨W.heap.size, 0, none⟩) 1 c)).run Tryz.prog (W.alloc (.cells #[.int .u8 v] 5)) = .ok (.string { data := #[UInt8.ofNat v.toNat] }) (W.alloc (.cells #[.int .u8 v] 5)) :=
  run_convert_bytes_arg _ _ _ Tryz.underlying45 Tryz.underlying5 W.heap.size 0 1 c [v] rfl (fun i hi => by
    obtain rfl : i = 0 := by omega
    simp [World.cell?_alloc_mark]) _ Tryz.underlying9
def leafF (v : Int) : Fld := ⟨1, 2, v, nob, 0, 0, 0, 0, nob⟩
def binF (s : ByteArray) : Fld := ⟨5, 0, 0, nob, 0, 0, 0, 0, s⟩
/-- The trees that the statement makes, and their texts. -/
def leafN (d : Nat) : Nd := constN 2 (d : Int) nob
def inN (y d : Nat) : Nd := pairN (sg4L y) (leafN d) (leafN d)
def tA (x y d : Nat) : Nd := pairN (sg4L x) (inN y d) (leafN d)
def tB (x y d : Nat) : Nd := pairN (sg4L x) (leafN d) (inN y d)
def tC (y d : Nat) : Nd := negN (inN y d)
def dL (d : Nat) : List UInt8 := [UInt8.ofNat (48 + d)]
def coreL (y d : Nat) : List UInt8 := dL d ++ sg4L y ++ dL d
def wrapL (y d : Nat) : List UInt8 := 40 :: (coreL y d ++ [41])
def leftL (x y d : Nat) : List UInt8 := if (decide (x < y) || (decide (y = x) && (decide (x = 1) || decide (x = 2)))) = true then coreL y d else wrapL y d
def rightL (x y d : Nat) : List UInt8 := if (decide (x < y) || (decide (y = x) && decide (x = 3))) = true then coreL y d else wrapL y d
def resA (x y d : Nat) : List UInt8 := leftL x y d ++ sg4L x ++ dL d
def resB (x y d : Nat) : List UInt8 := dL d ++ sg4L x ++ rightL x y d
def resC (y d : Nat) : List UInt8 := 45 :: wrapL y d
def got (x y d : Nat) : List (List UInt8 × Int) := [((textR (tA x y d)).s, (textR (tA x y d)).err), ((textR (tB x y d)).s, (textR (tB x y d)).err), ((textR (tC y d)).s, (textR (tC y d)).err)]
def want (x y d : Nat) : List (List UInt8 × Int) := [(resA x y d, 0), (resB x y d, 0), (resC y d, 0)]
theorem tight_all : (List.range 160).map (fun z => got (z / 40) (z / 10 % 4) (z % 10)) = (List.range 160).map (fun z => want (z / 40) (z / 10 % 4) (z % 10)) := by kernel_rfl
theorem tight_at (x y d : Nat) (hx : x < 4) (hy : y < 4) (hd : d < 10) : got x y d = want x y d := by
  have h := congrArg (fun l => l[x * 40 + y * 10 + d]?) tight_all
  simp only [List.getElem?_map] at h
  rw [List.getElem?_range (by omega)] at h
  simp only [Option.map_some, Option.some.injEq] at h
  rw [show (x * 40 + y * 10 + d) / 40 = x by omega, show (x * 40 + y * 10 + d) / 10 % 4 = y by omega, show (x * 40 + y * 10 + d) % 10 = d by omega] at h
  exact h
theorem tight_texts (x y d : Nat) (hx : x < 4) (hy : y < 4) (hd : d < 10) : textR (tA x y d) = ⟨resA x y d, 0⟩ ∧ textR (tB x y d) = ⟨resB x y d, 0⟩ ∧ textR (tC y d) = ⟨resC y d, 0⟩ := by
  have h := tight_at x y d hx hy hd
  unfold got want at h
  injection h with h1 h
  injection h with h2 h
  injection h with h3 h
  injection h1 with a1 b1
  injection h2 with a2 b2
  injection h3 with a3 b3
  have key : ∀ (r : TRes) s e, r.s = s → r.err = e → r = ⟨s, e⟩ := fun r s e h1 h2 => by cases r; simp only at h1 h2; rw [h1, h2]
  exact ⟨key _ _ _ a1 b1, key _ _ _ a2 b2, key _ _ _ a3 b3⟩
theorem wide_all (x y d : Nat) (hd : d < 10) : (tA x y d).all wideB = true ∧ (tB x y d).all wideB = true ∧ (tC y d).all wideB = true := by
  have h1 : (leafN d).all wideB = true := wide_leaf (by show (d : Int) ≤ _; omega)
  have h2 : (inN y d).all wideB = true := wide_pair h1 h1
  exact ⟨wide_pair h2 h1, wide_pair h1 h2, wide_neg h2⟩
def kids2 (d : Nat) : Fo := .cons (leafF d) .nil (.cons (leafF d) .nil .nil)
/-- What lies behind the making of the inner node. -/
structure TIn (w : World) (x y d nb : Nat) (W : World) : Prop where
  below : Below w.heap.size w W
  sx : W.cell? ⟨w.heap.size, x, none⟩ = some (.string (sg4 x))
  sy : W.cell? ⟨w.heap.size, y, none⟩ = some (.string (sg4 y))
  leaf : NLoc W (w.heap.size + 1) (leafF d) none 0 0
  node : ∃ A, NLoc W nb (binF (sg4 y)) A 2 2 ∧ KidsAt W (fun g => g < W.heap.size) (kids2 d) A
theorem TIn.later {w W W' : World} {x y d nb : Nat} (h : TIn w x y d nb W) (hb : Below W.heap.size W W') : TIn w x y d nb W' := by
  obtain ⟨A, h1, h2⟩ := h.node
  exact ⟨h.below.trans (hb.mono h.below.size), cell_later hb h.sx, cell_later hb h.sy, h.leaf.kept (Kept.of (x := W.heap.size) hb) (Nat.ne_of_lt h.leaf.lt), A, h1.kept (Kept.of (x := W.heap.size) hb) (Nat.ne_of_lt h1.lt), below_row h2 hb⟩
theorem TIn.drew {w W : World} {x y d nb : Nat} (h : TIn w x y d nb W) : TIn w x y d nb W.drew := h.later (below_drewN' (Below.refl _ _) 1)
theorem row_new {W : World} {f g : Fld} {A B : Option Addr} {k m : Fo} {c e : Nat} (hA : KidsAt W (fun b => b < W.heap.size) k A) (hB : KidsAt W (fun b => b < W.heap.size) m B) {U : World} {n : Nat} (hb : Below W.heap.size W U) (hn : n < U.heap.size)
    (hU : U.heap[n]? = some (.cells #[.int .i64 f.k, .int .i64 f.vk, .int .i64 f.vn, .string f.vs, .int .i64 f.r1, .int .i64 f.r2, .int .i64 f.r3, .int .i64 f.r4, .string f.op, .slice A k.len c, .int .i64 g.k, .int .i64 g.vk, .int .i64 g.vn, .string g.vs, .int .i64 g.r1, .int .i64 g.r2, .int .i64 g.r3, .int .i64 g.r4, .string g.op, .slice B m.len e] 30 (0, 0))) : KidsAt U (fun b => b < U.heap.size) (.cons f k (.cons g m .nil)) (some ⟨n, 0, none⟩) := by
  have hc : ∀ j v, (#[.int .i64 f.k, .int .i64 f.vk, .int .i64 f.vn, .string f.vs, .int .i64 f.r1, .int .i64 f.r2, .int .i64 f.r3, .int .i64 f.r4, .string f.op, .slice A k.len c, .int .i64 g.k, .int .i64 g.vk, .int .i64 g.vn, .string g.vs, .int .i64 g.r1, .int .i64 g.r2, .int .i64 g.r3, .int .i64 g.r4, .string g.op, .slice B m.len e] : Array Value)[j]? = some v → U.cell? ⟨n, j, none⟩ = some v := fun j v h => by
    rw [cell_of_row U n j _ _ (0, 0) hU]; exact h
  refine Or.inr ⟨n, 0, rfl, ⟨hn, hc 0 _ rfl, hc 1 _ rfl, hc 2 _ rfl, hc 3 _ rfl, hc 4 _ rfl, hc 5 _ rfl, hc 6 _ rfl, hc 7 _ rfl, hc 8 _ rfl⟩, ⟨A, c, hc 9 _ rfl, below_row hA hb⟩, ⟨hn, hc 10 _ rfl, hc 11 _ rfl, hc 12 _ rfl, hc 13 _ rfl, hc 14 _ rfl, hc 15 _ rfl, hc 16 _ rfl, hc 17 _ rfl, hc 18 _ rfl⟩, ⟨B, e, hc 19 _ rfl, below_row hB hb⟩, trivial⟩
theorem row_one {W : World} {f : Fld} {A : Option Addr} {k : Fo} {c : Nat} (hA : KidsAt W (fun b => b < W.heap.size) k A) {U : World} {n : Nat} (hb : Below W.heap.size W U) (hn : n < U.heap.size)
    (hU : U.heap[n]? = some (.cells #[.int .i64 f.k, .int .i64 f.vk, .int .i64 f.vn, .string f.vs, .int .i64 f.r1, .int .i64 f.r2, .int .i64 f.r3, .int .i64 f.r4, .string f.op, .slice A k.len c] 30 (0, 0))) : KidsAt U (fun b => b < U.heap.size) (.cons f k .nil) (some ⟨n, 0, none⟩) := by
  have hc : ∀ j v, (#[.int .i64 f.k, .int .i64 f.vk, .int .i64 f.vn, .string f.vs, .int .i64 f.r1, .int .i64 f.r2, .int .i64 f.r3, .int .i64 f.r4, .string f.op, .slice A k.len c] : Array Value)[j]? = some v → U.cell? ⟨n, j, none⟩ = some v := fun j v h => by
    rw [cell_of_row U n j _ _ (0, 0) hU]; exact h
  refine Or.inr ⟨n, 0, rfl, ⟨hn, hc 0 _ rfl, hc 1 _ rfl, hc 2 _ rfl, hc 3 _ rfl, hc 4 _ rfl, hc 5 _ rfl, hc 6 _ rfl, hc 7 _ rfl, hc 8 _ rfl⟩, ⟨A, c, hc 9 _ rfl, below_row hA hb⟩, trivial⟩
theorem tin_after {w V : World} {x y d : Nat} (hB : Below w.heap.size w V) (cx : V.cell? ⟨w.heap.size, x, none⟩ = some (.string (sg4 x))) (cy : V.cell? ⟨w.heap.size, y, none⟩ = some (.string (sg4 y))) (hL : NLoc V (w.heap.size + 1) (leafF d) none 0 0) :
    TIn w x y d (V.heap.size + 1) ((V.alloc (.cells #[.int .i64 1, .int .i64 2, .int .i64 (d : Nat), .string nob, .int .i64 0, .int .i64 0, .int .i64 0, .int .i64 0, .string nob, .slice none 0 0, .int .i64 1, .int .i64 2, .int .i64 (d : Nat), .string nob, .int .i64 0, .int .i64 0, .int .i64 0, .int .i64 0, .string nob, .slice none 0 0] 30)).alloc (.cells #[.int .i64 5, .int .i64 0, .int .i64 0, .string nob, .int .i64 0, .int .i64 0, .int .i64 0, .int .i64 0, .string (sg4 y), .slice (some ⟨V.heap.size, 0, none⟩) 2 2] 30)).drew := by
  have g1 : Below V.heap.size V (V.alloc (.cells #[.int .i64 1, .int .i64 2, .int .i64 (d : Nat), .string nob, .int .i64 0, .int .i64 0, .int .i64 0, .int .i64 0, .string nob, .slice none 0 0, .int .i64 1, .int .i64 2, .int .i64 (d : Nat), .string nob, .int .i64 0, .int .i64 0, .int .i64 0, .int .i64 0, .string nob, .slice none 0 0] 30)) := (Below.refl _ _).alloc (Nat.le_refl _) _
  have g2 : Below V.heap.size V ((V.alloc (.cells #[.int .i64 1, .int .i64 2, .int .i64 (d : Nat), .string nob, .int .i64 0, .int .i64 0, .int .i64 0, .int .i64 0, .string nob, .slice none 0 0, .int .i64 1, .int .i64 2, .int .i64 (d : Nat), .string nob, .int .i64 0, .int .i64 0, .int .i64 0, .int .i64 0, .string nob, .slice none 0 0] 30)).alloc (.cells #[.int .i64 5, .int .i64 0, .int .i64 0, .string nob, .int .i64 0, .int .i64 0, .int .i64 0, .int .i64 0, .string (sg4 y), .slice (some ⟨V.heap.size, 0, none⟩) 2 2] 30)).drew := below_drewN' (g1.alloc g1.size _) 1
  have z1 : (V.alloc (.cells #[.int .i64 1, .int .i64 2, .int .i64 (d : Nat), .string nob, .int .i64 0, .int .i64 0, .int .i64 0, .int .i64 0, .string nob, .slice none 0 0, .int .i64 1, .int .i64 2, .int .i64 (d : Nat), .string nob, .int .i64 0, .int .i64 0, .int .i64 0, .int .i64 0, .string nob, .slice none 0 0] 30)).heap.size = V.heap.size + 1 := by simp
  have h1 : (V.alloc (.cells #[.int .i64 1, .int .i64 2, .int .i64 (d : Nat), .string nob, .int .i64 0, .int .i64 0, .int .i64 0, .int .i64 0, .string nob, .slice none 0 0, .int .i64 1, .int .i64 2, .int .i64 (d : Nat), .string nob, .int .i64 0, .int .i64 0, .int .i64 0, .int .i64 0, .string nob, .slice none 0 0] 30)).heap[V.heap.size]? = some (.cells #[.int .i64 1, .int .i64 2, .int .i64 (d : Nat), .string nob, .int .i64 0, .int .i64 0, .int .i64 0, .int .i64 0, .string nob, .slice none 0 0, .int .i64 1, .int .i64 2, .int .i64 (d : Nat), .string nob, .int .i64 0, .int .i64 0, .int .i64 0, .int .i64 0, .string nob, .slice none 0 0] 30 (0, 0)) := heap_alloc_new _ _
  have h2 : ((V.alloc (.cells #[.int .i64 1, .int .i64 2, .int .i64 (d : Nat), .string nob, .int .i64 0, .int .i64 0, .int .i64 0, .int .i64 0, .string nob, .slice none 0 0, .int .i64 1, .int .i64 2, .int .i64 (d : Nat), .string nob, .int .i64 0, .int .i64 0, .int .i64 0, .int .i64 0, .string nob, .slice none 0 0] 30)).alloc (.cells #[.int .i64 5, .int .i64 0, .int .i64 0, .string nob, .int .i64 0, .int .i64 0, .int .i64 0, .int .i64 0, .string (sg4 y), .slice (some ⟨V.heap.size, 0, none⟩) 2 2] 30)).heap[(V.alloc (.cells #[.int .i64 1, .int .i64 2, .int .i64 (d : Nat), .string nob, .int .i64 0, .int .i64 0, .int .i64 0, .int .i64 0, .string nob, .slice none 0 0, .int .i64 1, .int .i64 2, .int .i64 (d : Nat), .string nob, .int .i64 0, .int .i64 0, .int .i64 0, .int .i64 0, .string nob, .slice none 0 0] 30)).heap.size]? = some (.cells #[.int .i64 5, .int .i64 0, .int .i64 0, .string nob, .int .i64 0, .int .i64 0, .int .i64 0, .int .i64 0, .string (sg4 y), .slice (some ⟨V.heap.size, 0, none⟩) 2 2] 30 (0, 0)) := heap_alloc_new _ _
  rw [z1] at h2
  have g3 : Below (V.alloc (.cells #[.int .i64 1, .int .i64 2, .int .i64 (d : Nat), .string nob, .int .i64 0, .int .i64 0, .int .i64 0, .int .i64 0, .string nob, .slice none 0 0, .int .i64 1, .int .i64 2, .int .i64 (d : Nat), .string nob, .int .i64 0, .int .i64 0, .int .i64 0, .int .i64 0, .string nob, .slice none 0 0] 30)).heap.size (V.alloc (.cells #[.int .i64 1, .int .i64 2, .int .i64 (d : Nat), .string nob, .int .i64 0, .int .i64 0, .int .i64 0, .int .i64 0, .string nob, .slice none 0 0, .int .i64 1, .int .i64 2, .int .i64 (d : Nat), .string nob, .int .i64 0, .int .i64 0, .int .i64 0, .int .i64 0, .string nob, .slice none 0 0] 30)) ((V.alloc (.cells #[.int .i64 1, .int .i64 2, .int .i64 (d : Nat), .string nob, .int .i64 0, .int .i64 0, .int .i64 0, .int .i64 0, .string nob, .slice none 0 0, .int .i64 1, .int .i64 2, .int .i64 (d : Nat), .string nob, .int .i64 0, .int .i64 0, .int .i64 0, .int .i64 0, .string nob, .slice none 0 0] 30)).alloc (.cells #[.int .i64 5, .int .i64 0, .int .i64 0, .string nob, .int .i64 0, .int .i64 0, .int .i64 0, .int .i64 0, .string (sg4 y), .slice (some ⟨V.heap.size, 0, none⟩) 2 2] 30)).drew := below_drewN' ((Below.refl _ _).alloc (Nat.le_refl _) _) 1
  have k1 : KidsAt (V.alloc (.cells #[.int .i64 1, .int .i64 2, .int .i64 (d : Nat), .string nob, .int .i64 0, .int .i64 0, .int .i64 0, .int .i64 0, .string nob, .slice none 0 0, .int .i64 1, .int .i64 2, .int .i64 (d : Nat), .string nob, .int .i64 0, .int .i64 0, .int .i64 0, .int .i64 0, .string nob, .slice none 0 0] 30)) (fun b => b < (V.alloc (.cells #[.int .i64 1, .int .i64 2, .int .i64 (d : Nat), .string nob, .int .i64 0, .int .i64 0, .int .i64 0, .int .i64 0, .string nob, .slice none 0 0, .int .i64 1, .int .i64 2, .int .i64 (d : Nat), .string nob, .int .i64 0, .int .i64 0, .int .i64 0, .int .i64 0, .string nob, .slice none 0 0] 30)).heap.size) (kids2 d) (some ⟨V.heap.size, 0, none⟩) := row_new (f := leafF d) (g := leafF d) (W := V) (A := none) (B := none) (k := .nil) (m := .nil) (c := 0) (e := 0) (Or.inl rfl) (Or.inl rfl) g1 (by omega) h1
  exact ⟨hB.trans (g2.mono hB.size), cell_later g2 cx, cell_later g2 cy, hL.kept (Kept.of (x := V.heap.size) g2) (Nat.ne_of_lt hL.lt), _, ⟨h2⟩, below_row k1 g3⟩
theorem tin_before {w V : World} {x y d : Nat} (hB : Below w.heap.size w V) (cx : V.cell? ⟨w.heap.size, x, none⟩ = some (.string (sg4 x))) (cy : V.cell? ⟨w.heap.size, y, none⟩ = some (.string (sg4 y))) (hL : NLoc V (w.heap.size + 1) (leafF d) none 0 0) :
    TIn w x y d V.heap.size ((V.alloc (.cells #[.int .i64 5, .int .i64 0, .int .i64 0, .string nob, .int .i64 0, .int .i64 0, .int .i64 0, .int .i64 0, .string (sg4 y), .slice (some ⟨V.heap.size + 1, 0, none⟩) 2 2] 30)).alloc (.cells #[.int .i64 1, .int .i64 2, .int .i64 (d : Nat), .string nob, .int .i64 0, .int .i64 0, .int .i64 0, .int .i64 0, .string nob, .slice none 0 0, .int .i64 1, .int .i64 2, .int .i64 (d : Nat), .string nob, .int .i64 0, .int .i64 0, .int .i64 0, .int .i64 0, .string nob, .slice none 0 0] 30)).drew := by
  have g1 : Below V.heap.size V (V.alloc (.cells #[.int .i64 5, .int .i64 0, .int .i64 0, .string nob, .int .i64 0, .int .i64 0, .int .i64 0, .int .i64 0, .string (sg4 y), .slice (some ⟨V.heap.size + 1, 0, none⟩) 2 2] 30)) := (Below.refl _ _).alloc (Nat.le_refl _) _
  have g2 : Below V.heap.size V ((V.alloc (.cells #[.int .i64 5, .int .i64 0, .int .i64 0, .string nob, .int .i64 0, .int .i64 0, .int .i64 0, .int .i64 0, .string (sg4 y), .slice (some ⟨V.heap.size + 1, 0, none⟩) 2 2] 30)).alloc (.cells #[.int .i64 1, .int .i64 2, .int .i64 (d : Nat), .string nob, .int .i64 0, .int .i64 0, .int .i64 0, .int .i64 0, .string nob, .slice none 0 0, .int .i64 1, .int .i64 2, .int .i64 (d : Nat), .string nob, .int .i64 0, .int .i64 0, .int .i64 0, .int .i64 0, .string nob, .slice none 0 0] 30)).drew := below_drewN' (g1.alloc g1.size _) 1
  have z1 : (V.alloc (.cells #[.int .i64 5, .int .i64 0, .int .i64 0, .string nob, .int .i64 0, .int .i64 0, .int .i64 0, .int .i64 0, .string (sg4 y), .slice (some ⟨V.heap.size + 1, 0, none⟩) 2 2] 30)).heap.size = V.heap.size + 1 := by simp
  have h1 : (V.alloc (.cells #[.int .i64 5, .int .i64 0, .int .i64 0, .string nob, .int .i64 0, .int .i64 0, .int .i64 0, .int .i64 0, .string (sg4 y), .slice (some ⟨V.heap.size + 1, 0, none⟩) 2 2] 30)).heap[V.heap.size]? = some (.cells #[.int .i64 5, .int .i64 0, .int .i64 0, .string nob, .int .i64 0, .int .i64 0, .int .i64 0, .int .i64 0, .string (sg4 y), .slice (some ⟨V.heap.size + 1, 0, none⟩) 2 2] 30 (0, 0)) := heap_alloc_new _ _
  have h2 : ((V.alloc (.cells #[.int .i64 5, .int .i64 0, .int .i64 0, .string nob, .int .i64 0, .int .i64 0, .int .i64 0, .int .i64 0, .string (sg4 y), .slice (some ⟨V.heap.size + 1, 0, none⟩) 2 2] 30)).alloc (.cells #[.int .i64 1, .int .i64 2, .int .i64 (d : Nat), .string nob, .int .i64 0, .int .i64 0, .int .i64 0, .int .i64 0, .string nob, .slice none 0 0, .int .i64 1, .int .i64 2, .int .i64 (d : Nat), .string nob, .int .i64 0, .int .i64 0, .int .i64 0, .int .i64 0, .string nob, .slice none 0 0] 30)).heap[(V.alloc (.cells #[.int .i64 5, .int .i64 0, .int .i64 0, .string nob, .int .i64 0, .int .i64 0, .int .i64 0, .int .i64 0, .string (sg4 y), .slice (some ⟨V.heap.size + 1, 0, none⟩) 2 2] 30)).heap.size]? = some (.cells #[.int .i64 1, .int .i64 2, .int .i64 (d : Nat), .string nob, .int .i64 0, .int .i64 0, .int .i64 0, .int .i64 0, .string nob, .slice none 0 0, .int .i64 1, .int .i64 2, .int .i64 (d : Nat), .string nob, .int .i64 0, .int .i64 0, .int .i64 0, .int .i64 0, .string nob, .slice none 0 0] 30 (0, 0)) := heap_alloc_new _ _
  rw [z1] at h2
  have g3 : Below (V.alloc (.cells #[.int .i64 5, .int .i64 0, .int .i64 0, .string nob, .int .i64 0, .int .i64 0, .int .i64 0, .int .i64 0, .string (sg4 y), .slice (some ⟨V.heap.size + 1, 0, none⟩) 2 2] 30)).heap.size (V.alloc (.cells #[.int .i64 5, .int .i64 0, .int .i64 0, .string nob, .int .i64 0, .int .i64 0, .int .i64 0, .int .i64 0, .string (sg4 y), .slice (some ⟨V.heap.size + 1, 0, none⟩) 2 2] 30)) ((V.alloc (.cells #[.int .i64 5, .int .i64 0, .int .i64 0, .string nob, .int .i64 0, .int .i64 0, .int .i64 0, .int .i64 0, .string (sg4 y), .slice (some ⟨V.heap.size + 1, 0, none⟩) 2 2] 30)).alloc (.cells #[.int .i64 1, .int .i64 2, .int .i64 (d : Nat), .string nob, .int .i64 0, .int .i64 0, .int .i64 0, .int .i64 0, .string nob, .slice none 0 0, .int .i64 1, .int .i64 2, .int .i64 (d : Nat), .string nob, .int .i64 0, .int .i64 0, .int .i64 0, .int .i64 0, .string nob, .slice none 0 0] 30)).drew := below_drewN' ((Below.refl _ _).alloc (Nat.le_refl _) _) 1
  have z2 : V.heap.size + 1 < ((V.alloc (.cells #[.int .i64 5, .int .i64 0, .int .i64 0, .string nob, .int .i64 0, .int .i64 0, .int .i64 0, .int .i64 0, .string (sg4 y), .slice (some ⟨V.heap.size + 1, 0, none⟩) 2 2] 30)).alloc (.cells #[.int .i64 1, .int .i64 2, .int .i64 (d : Nat), .string nob, .int .i64 0, .int .i64 0, .int .i64 0, .int .i64 0, .string nob, .slice none 0 0, .int .i64 1, .int .i64 2, .int .i64 (d : Nat), .string nob, .int .i64 0, .int .i64 0, .int .i64 0, .int .i64 0, .string nob, .slice none 0 0] 30)).drew.heap.size := by show V.heap.size + 1 < ((V.alloc (.cells #[.int .i64 5, .int .i64 0, .int .i64 0, .string nob, .int .i64 0, .int .i64 0, .int .i64 0, .int .i64 0, .string (sg4 y), .slice (some ⟨V.heap.size + 1, 0, none⟩) 2 2] 30)).alloc (.cells #[.int .i64 1, .int .i64 2, .int .i64 (d : Nat), .string nob, .int .i64 0, .int .i64 0, .int .i64 0, .int .i64 0, .string nob, .slice none 0 0, .int .i64 1, .int .i64 2, .int .i64 (d : Nat), .string nob, .int .i64 0, .int .i64 0, .int .i64 0, .int .i64 0, .string nob, .slice none 0 0] 30)).heap.size; simp
  have k1 : KidsAt ((V.alloc (.cells #[.int .i64 5, .int .i64 0, .int .i64 0, .string nob, .int .i64 0, .int .i64 0, .int .i64 0, .int .i64 0, .string (sg4 y), .slice (some ⟨V.heap.size + 1, 0, none⟩) 2 2] 30)).alloc (.cells #[.int .i64 1, .int .i64 2, .int .i64 (d : Nat), .string nob, .int .i64 0, .int .i64 0, .int .i64 0, .int .i64 0, .string nob, .slice none 0 0, .int .i64 1, .int .i64 2, .int .i64 (d : Nat), .string nob, .int .i64 0, .int .i64 0, .int .i64 0, .int .i64 0, .string nob, .slice none 0 0] 30)).drew (fun b => b < ((V.alloc (.cells #[.int .i64 5, .int .i64 0, .int .i64 0, .string nob, .int .i64 0, .int .i64 0, .int .i64 0, .int .i64 0, .string (sg4 y), .slice (some ⟨V.heap.size + 1, 0, none⟩) 2 2] 30)).alloc (.cells #[.int .i64 1, .int .i64 2, .int .i64 (d : Nat), .string nob, .int .i64 0, .int .i64 0, .int .i64 0, .int .i64 0, .string nob, .slice none 0 0, .int .i64 1, .int .i64 2, .int .i64 (d : Nat), .string nob, .int .i64 0, .int .i64 0, .int .i64 0, .int .i64 0, .string nob, .slice none 0 0] 30)).drew.heap.size) (kids2 d) (some ⟨V.heap.size + 1, 0, none⟩) := row_new (f := leafF d) (g := leafF d) (W := V) (A := none) (B := none) (k := .nil) (m := .nil) (c := 0) (e := 0) (Or.inl rfl) (Or.inl rfl) g2 z2 h2
  exact ⟨hB.trans (g2.mono hB.size), cell_later g2 cx, cell_later g2 cy, hL.kept (Kept.of (x := V.heap.size) g2) (Nat.ne_of_lt hL.lt), _, NLoc.kept (w := V.alloc (.cells #[.int .i64 5, .int .i64 0, .int .i64 0, .string nob, .int .i64 0, .int .i64 0, .int .i64 0, .int .i64 0, .string (sg4 y), .slice (some ⟨V.heap.size + 1, 0, none⟩) 2 2] 30)) (y := (V.alloc (.cells #[.int .i64 5, .int .i64 0, .int .i64 0, .string nob, .int .i64 0, .int .i64 0, .int .i64 0, .int .i64 0, .string (sg4 y), .slice (some ⟨V.heap.size + 1, 0, none⟩) 2 2] 30)).heap.size) ⟨h1⟩ (Kept.of g3) (by omega), k1⟩
set_option maxRecDepth 100000 in
set_option maxHeartbeats 2000000 in
theorem printTight (i j k : Int) (hi : 0 ≤ i ∧ i ≤ 255) (hj : 0 ≤ j ∧ j ≤ 255) (hk : 0 ≤ k ∧ k ≤ 255) (w : World) (hl : LexLib w) (hg : ErrT w) :
    Calls Tryz.prog 6 #[.int .u8 i, .int .u8 j, .int .u8 k] w fun e w' => e = .returned (.bool true) ∧ Below w.heap.size w w' := by
  have HW := Lib.hid (fun (W : World) (hb : Below w.heap.size w W) => cwakes6 W (hl.below hb) (hg.below hb))
  have HL := Lib.hid hl
  clear hl hg
  obtain ⟨x, hx, hxk⟩ : ∃ x : Nat, x < 4 ∧ i.tmod 4 = (x : Int) := ⟨(i.tmod 4).toNat, by have := Int.tmod_lt_of_pos i (show (0 : Int) < 4 by decide); omega, by have := Int.tmod_nonneg 4 hi.1; omega⟩
  obtain ⟨y, hy, hyk⟩ : ∃ y : Nat, y < 4 ∧ j.tmod 4 = (y : Int) := ⟨(j.tmod 4).toNat, by have := Int.tmod_lt_of_pos j (show (0 : Int) < 4 by decide); omega, by have := Int.tmod_nonneg 4 hj.1; omega⟩
  obtain ⟨d, hd, hdk⟩ : ∃ a : Nat, a < 10 ∧ k.tmod 10 = (a : Int) := ⟨(k.tmod 10).toNat, by have := Int.tmod_lt_of_pos k (show (0 : Int) < 10 by decide); omega, by have := Int.tmod_nonneg 10 hk.1; omega⟩
  have i0 : IntKind.i64.wrap i = i := IntWalk.i64_in _ (by omega)
  have i1 : IntKind.i64.wrap j = j := IntWalk.i64_in _ (by omega)
  have i2 : IntKind.i64.wrap (x : Int) = x := IntWalk.i64_in _ (by omega)
  have i3 : IntKind.i64.wrap (y : Int) = y := IntWalk.i64_in _ (by omega)
  have i4 : IntKind.i64.wrap (d : Int) = d := IntWalk.i64_in _ (by omega)
  have w4 : IntKind.u8.wrap (d : Int) = d := by unfold IntKind.wrap; simp [IntKind.signed, IntKind.bits]; omega
  have w5 : IntKind.u8.wrap (48 + (d : Int)) = 48 + d := by unfold IntKind.wrap; simp [IntKind.signed, IntKind.bits]; omega
  have hi' := hi.1
  have hj' := hj.1
  have hk' := hk.1
  have B0 : Below w.heap.size w ((w.alloc (.cells #[.string { data := #[61] }, .string { data := #[43] }, .string { data := #[42] }, .string { data := #[94] }] 9)).alloc (.cells #[.int .i64 1, .int .i64 2, .int .i64 (d : Nat), .string { data := #[] }, .int .i64 0, .int .i64 0, .int .i64 0, .int .i64 0, .string { data := #[] }, .slice none 0 0] 30)) := ((Below.refl _ _).alloc (Nat.le_refl _) _).alloc (by simp) _
  have g0 : Below (w.alloc (.cells #[.string { data := #[61] }, .string { data := #[43] }, .string { data := #[42] }, .string { data := #[94] }] 9)).heap.size (w.alloc (.cells #[.string { data := #[61] }, .string { data := #[43] }, .string { data := #[42] }, .string { data := #[94] }] 9)) ((w.alloc (.cells #[.string { data := #[61] }, .string { data := #[43] }, .string { data := #[42] }, .string { data := #[94] }] 9)).alloc (.cells #[.int .i64 1, .int .i64 2, .int .i64 (d : Nat), .string { data := #[] }, .int .i64 0, .int .i64 0, .int .i64 0, .int .i64 0, .string { data := #[] }, .slice none 0 0] 30)) := (Below.refl _ _).alloc (Nat.le_refl _) _
  have cx := cell_later g0 (sg4_cell x hx w)
  have cy := cell_later g0 (sg4_cell y hy w)
  have L0 : NLoc ((w.alloc (.cells #[.string { data := #[61] }, .string { data := #[43] }, .string { data := #[42] }, .string { data := #[94] }] 9)).alloc (.cells #[.int .i64 1, .int .i64 2, .int .i64 (d : Nat), .string { data := #[] }, .int .i64 0, .int .i64 0, .int .i64 0, .int .i64 0, .string { data := #[] }, .slice none 0 0] 30)) (w.heap.size + 1) (leafF d) none 0 0 := by
    have : NLoc ((w.alloc (.cells #[.string { data := #[61] }, .string { data := #[43] }, .string { data := #[42] }, .string { data := #[94] }] 9)).alloc (.cells #[.int .i64 1, .int .i64 2, .int .i64 (d : Nat), .string { data := #[] }, .int .i64 0, .int .i64 0, .int .i64 0, .int .i64 0, .string { data := #[] }, .slice none 0 0] 30)) (w.alloc (.cells #[.string { data := #[61] }, .string { data := #[43] }, .string { data := #[42] }, .string { data := #[94] }] 9)).heap.size (leafF d) none 0 0 := ⟨heap_alloc_new _ _⟩
    rwa [show (w.alloc (.cells #[.string { data := #[61] }, .string { data := #[43] }, .string { data := #[42] }, .string { data := #[94] }] 9)).heap.size = w.heap.size + 1 by simp] at this
  have hV : ((w.alloc (.cells #[.string { data := #[61] }, .string { data := #[43] }, .string { data := #[42] }, .string { data := #[94] }] 9)).alloc (.cells #[.int .i64 1, .int .i64 2, .int .i64 (d : Nat), .string { data := #[] }, .int .i64 0, .int .i64 0, .int .i64 0, .int .i64 0, .string { data := #[] }, .slice none 0 0] 30)).heap.size = w.heap.size + 2 := by simp
  have hVlt : w.heap.size + 1 < ((w.alloc (.cells #[.string { data := #[61] }, .string { data := #[43] }, .string { data := #[42] }, .string { data := #[94] }] 9)).alloc (.cells #[.int .i64 1, .int .i64 2, .int .i64 (d : Nat), .string { data := #[] }, .int .i64 0, .int .i64 0, .int .i64 0, .int .i64 0, .string { data := #[] }, .slice none 0 0] 30)).heap.size := by omega
  have hVl0 : w.heap.size < ((w.alloc (.cells #[.string { data := #[61] }, .string { data := #[43] }, .string { data := #[42] }, .string { data := #[94] }] 9)).alloc (.cells #[.int .i64 1, .int .i64 2, .int .i64 (d : Nat), .string { data := #[] }, .int .i64 0, .int .i64 0, .int .i64 0, .int .i64 0, .string { data := #[] }, .slice none 0 0] 30)).heap.size := by omega
  have hVn0 : w.heap.size ≠ ((w.alloc (.cells #[.string { data := #[61] }, .string { data := #[43] }, .string { data := #[42] }, .string { data := #[94] }] 9)).alloc (.cells #[.int .i64 1, .int .i64 2, .int .i64 (d : Nat), .string { data := #[] }, .int .i64 0, .int .i64 0, .int .i64 0, .int .i64 0, .string { data := #[] }, .slice none 0 0] 30)).heap.size := by omega
  have hVn1 : w.heap.size + 1 ≠ ((w.alloc (.cells #[.string { data := #[61] }, .string { data := #[43] }, .string { data := #[42] }, .string { data := #[94] }] 9)).alloc (.cells #[.int .i64 1, .int .i64 2, .int .i64 (d : Nat), .string { data := #[] }, .int .i64 0, .int .i64 0, .int .i64 0, .int .i64 0, .string { data := #[] }, .slice none 0 0] 30)).heap.size := by omega
  have hVn2 : w.heap.size ≠ ((w.alloc (.cells #[.string { data := #[61] }, .string { data := #[43] }, .string { data := #[42] }, .string { data := #[94] }] 9)).alloc (.cells #[.int .i64 1, .int .i64 2, .int .i64 (d : Nat), .string { data := #[] }, .int .i64 0, .int .i64 0, .int .i64 0, .int .i64 0, .string { data := #[] }, .slice none 0 0] 30)).heap.size + 1 := by omega
  have x0 : (0 : Int) ≤ (x : Int) := Int.natCast_nonneg _
  have x1 : (x : Int) < 4 := by omega
  have y0 : (0 : Int) ≤ (y : Int) := Int.natCast_nonneg _
  have y1 : (y : Int) < 4 := by omega
  clear g0 hV
  go_enter Tryz.func6, Tryz.ntmps6
  go_upto_region 4 with fail
  generalize ((w.alloc (.cells #[.string { data := #[61] }, .string { data := #[43] }, .string { data := #[42] }, .string { data := #[94] }] 9)).alloc (.cells #[.int .i64 1, .int .i64 2, .int .i64 (d : Nat), .string { data := #[] }, .int .i64 0, .int .i64 0, .int .i64 0, .int .i64 0, .string { data := #[] }, .slice none 0 0] 30)) = V at *
  have HLG := Lib.hid (And.intro B0 (And.intro cx (And.intro cy L0)))
  go_cut [11] from 35 to 42 (fun s11 wc => ∃ nb, s11 = .pointer (some ⟨nb, 0, none⟩) ∧ Hid (TIn w x y d nb wc))
  case first =>
    obtain ⟨l0, l1, l2, l3, l4, l5, l6, l7, l8, l9, -⟩ := L0.cells
    simp only [leafF] at l0 l1 l2 l3 l4 l5 l6 l7 l8 l9
    clear L0 B0
    go_region
    all_goals (go_wp2_with fail)
    all_goals (go_meet)
    all_goals (first | exact ⟨_, rfl, Lib.hid (tin_after HLG.out.1 HLG.out.2.1 HLG.out.2.2.1 HLG.out.2.2.2)⟩ | exact ⟨_, rfl, Lib.hid (tin_before HLG.out.1 HLG.out.2.1 HLG.out.2.2.1 HLG.out.2.2.2)⟩)
  case rest =>
  obtain ⟨nb, rfl, HT⟩ := hcut
  clear HLG cx cy B0 L0 hVlt hVl0 hVn0 hVn1 hVn2
  have BW := HT.out.below
  have cx := HT.out.sx
  have cy := HT.out.sy
  obtain ⟨A, hN, hKI⟩ := HT.out.node
  have n0 : w.heap.size < wc.heap.size := World.block_lt_of_cell? wc _ cx
  have n1 : w.heap.size + 1 < wc.heap.size := HT.out.leaf.lt
  have n2 : nb < wc.heap.size := hN.lt
  have n3 : w.heap.size ≠ wc.heap.size := by omega
  have n4 : w.heap.size + 1 ≠ wc.heap.size := by omega
  have n5 : nb ≠ wc.heap.size := by omega
  obtain ⟨l0, l1, l2, l3, l4, l5, l6, l7, l8, l9, -⟩ := HT.out.leaf.cells
  simp only [leafF] at l0 l1 l2 l3 l4 l5 l6 l7 l8 l9
  obtain ⟨m0, m1, m2, m3, m4, m5, m6, m7, m8, m9, -⟩ := hN.cells
  simp only [binF] at m0 m1 m2 m3 m4 m5 m6 m7 m8 m9
  have g1 : Below wc.heap.size wc (wc.alloc (.cells #[.int .i64 5, .int .i64 0, .int .i64 0, .string nob, .int .i64 0, .int .i64 0, .int .i64 0, .int .i64 0, .string (sg4 y), .slice A 2 2, .int .i64 1, .int .i64 2, .int .i64 (d : Nat), .string nob, .int .i64 0, .int .i64 0, .int .i64 0, .int .i64 0, .string nob, .slice none 0 0] 30)).drew := below_drewN' ((Below.refl _ _).alloc (Nat.le_refl _) _) 1
  have HTX : Hid (Calls Tryz.prog 10 #[.agg #[.int .i64 5, .int .i64 0, .int .i64 0, .string { data := #[] }, .int .i64 0, .int .i64 0, .int .i64 0, .int .i64 0, .string (sg4 x), .slice (some ⟨wc.heap.size, 0, none⟩) 2 2]] (wc.alloc (.cells #[.int .i64 5, .int .i64 0, .int .i64 0, .string nob, .int .i64 0, .int .i64 0, .int .i64 0, .int .i64 0, .string (sg4 y), .slice A 2 2, .int .i64 1, .int .i64 2, .int .i64 (d : Nat), .string nob, .int .i64 0, .int .i64 0, .int .i64 0, .int .i64 0, .string nob, .slice none 0 0] 30)).drew fun e w' => e = .returned (.tuple #[.string (str (resA x y d)), .int .i64 0]) ∧ Below (wc.alloc (.cells #[.int .i64 5, .int .i64 0, .int .i64 0, .string nob, .int .i64 0, .int .i64 0, .int .i64 0, .int .i64 0, .string (sg4 y), .slice A 2 2, .int .i64 1, .int .i64 2, .int .i64 (d : Nat), .string nob, .int .i64 0, .int .i64 0, .int .i64 0, .int .i64 0, .string nob, .slice none 0 0] 30)).drew.heap.size (wc.alloc (.cells #[.int .i64 5, .int .i64 0, .int .i64 0, .string nob, .int .i64 0, .int .i64 0, .int .i64 0, .int .i64 0, .string (sg4 y), .slice A 2 2, .int .i64 1, .int .i64 2, .int .i64 (d : Nat), .string nob, .int .i64 0, .int .i64 0, .int .i64 0, .int .i64 0, .string nob, .slice none 0 0] 30)).drew w') := Lib.hid (by
    have := cText (tA x y d) (some ⟨wc.heap.size, 0, none⟩) 2 (wc.alloc (.cells #[.int .i64 5, .int .i64 0, .int .i64 0, .string nob, .int .i64 0, .int .i64 0, .int .i64 0, .int .i64 0, .string (sg4 y), .slice A 2 2, .int .i64 1, .int .i64 2, .int .i64 (d : Nat), .string nob, .int .i64 0, .int .i64 0, .int .i64 0, .int .i64 0, .string nob, .slice none 0 0] 30)).drew (by show 5 ≤ 1990; decide) (wide_all x y d hd).1 (HL.out.below (BW.trans (g1.mono BW.size))) (row_new (W := wc) (f := binF (sg4 y)) (g := leafF d) (A := A) (B := none) (k := kids2 d) (m := .nil) (c := 2) (e := 0) hKI (Or.inl rfl) g1 (by show wc.heap.size < (wc.alloc (.cells #[.int .i64 5, .int .i64 0, .int .i64 0, .string nob, .int .i64 0, .int .i64 0, .int .i64 0, .int .i64 0, .string (sg4 y), .slice A 2 2, .int .i64 1, .int .i64 2, .int .i64 (d : Nat), .string nob, .int .i64 0, .int .i64 0, .int .i64 0, .int .i64 0, .string nob, .slice none 0 0] 30)).heap.size; simp) (heap_alloc_new _ _))
    rw [(tight_texts x y d hx hy hd).1] at this
    exact this)
  have HG1 := Lib.hid g1
  clear g1 hN hKI BW
  go_upto_region 5 with fail
  go_cut [12, 13] from 43 to 54 (fun s1 s2 wc => s1 = .string (str (resA x y d)) ∧ s2 = .int .i64 0 ∧ Hid (TIn w x y d nb wc))
  case first =>
    have SD : wc.drew.cell? ⟨w.heap.size, x, none⟩ = some (.string (sg4 x)) ∧ wc.drew.cell? ⟨w.heap.size + 1, 0, none⟩ = some (.int .i64 1) ∧ wc.drew.cell? ⟨w.heap.size + 1, 1, none⟩ = some (.int .i64 2) ∧ wc.drew.cell? ⟨w.heap.size + 1, 2, none⟩ = some (.int .i64 (d : Nat)) ∧ wc.drew.cell? ⟨w.heap.size + 1, 3, none⟩ = some (.string nob) ∧ wc.drew.cell? ⟨w.heap.size + 1, 4, none⟩ = some (.int .i64 0) ∧ wc.drew.cell? ⟨w.heap.size + 1, 5, none⟩ = some (.int .i64 0) ∧ wc.drew.cell? ⟨w.heap.size + 1, 6, none⟩ = some (.int .i64 0) ∧ wc.drew.cell? ⟨w.heap.size + 1, 7, none⟩ = some (.int .i64 0) ∧ wc.drew.cell? ⟨w.heap.size + 1, 8, none⟩ = some (.string nob) ∧ wc.drew.cell? ⟨w.heap.size + 1, 9, none⟩ = some (.slice none 0 0) ∧ wc.drew.cell? ⟨nb, 0, none⟩ = some (.int .i64 5) ∧ wc.drew.cell? ⟨nb, 1, none⟩ = some (.int .i64 0) ∧ wc.drew.cell? ⟨nb, 2, none⟩ = some (.int .i64 0) ∧ wc.drew.cell? ⟨nb, 3, none⟩ = some (.string nob) ∧ wc.drew.cell? ⟨nb, 4, none⟩ = some (.int .i64 0) ∧ wc.drew.cell? ⟨nb, 5, none⟩ = some (.int .i64 0) ∧ wc.drew.cell? ⟨nb, 6, none⟩ = some (.int .i64 0) ∧ wc.drew.cell? ⟨nb, 7, none⟩ = some (.int .i64 0) ∧ wc.drew.cell? ⟨nb, 8, none⟩ = some (.string (sg4 y)) ∧ wc.drew.cell? ⟨nb, 9, none⟩ = some (.slice A 2 2) := ⟨cx, l0, l1, l2, l3, l4, l5, l6, l7, l8, l9, m0, m1, m2, m3, m4, m5, m6, m7, m8, m9⟩
    have SA : (wc.alloc (.cells #[.int .i64 5, .int .i64 0, .int .i64 0, .string nob, .int .i64 0, .int .i64 0, .int .i64 0, .int .i64 0, .string (sg4 y), .slice A 2 2, .int .i64 1, .int .i64 2, .int .i64 (d : Nat), .string nob, .int .i64 0, .int .i64 0, .int .i64 0, .int .i64 0, .string nob, .slice none 0 0] 30)).drew.cell? ⟨w.heap.size, x, none⟩ = some (.string (sg4 x)) ∧ (wc.alloc (.cells #[.int .i64 5, .int .i64 0, .int .i64 0, .string nob, .int .i64 0, .int .i64 0, .int .i64 0, .int .i64 0, .string (sg4 y), .slice A 2 2, .int .i64 1, .int .i64 2, .int .i64 (d : Nat), .string nob, .int .i64 0, .int .i64 0, .int .i64 0, .int .i64 0, .string nob, .slice none 0 0] 30)).drew.cell? ⟨w.heap.size + 1, 0, none⟩ = some (.int .i64 1) ∧ (wc.alloc (.cells #[.int .i64 5, .int .i64 0, .int .i64 0, .string nob, .int .i64 0, .int .i64 0, .int .i64 0, .int .i64 0, .string (sg4 y), .slice A 2 2, .int .i64 1, .int .i64 2, .int .i64 (d : Nat), .string nob, .int .i64 0, .int .i64 0, .int .i64 0, .int .i64 0, .string nob, .slice none 0 0] 30)).drew.cell? ⟨w.heap.size + 1, 1, none⟩ = some (.int .i64 2) ∧ (wc.alloc (.cells #[.int .i64 5, .int .i64 0, .int .i64 0, .string nob, .int .i64 0, .int .i64 0, .int .i64 0, .int .i64 0, .string (sg4 y), .slice A 2 2, .int .i64 1, .int .i64 2, .int .i64 (d : Nat), .string nob, .int .i64 0, .int .i64 0, .int .i64 0, .int .i64 0, .string nob, .slice none 0 0] 30)).drew.cell? ⟨w.heap.size + 1, 2, none⟩ = some (.int .i64 (d : Nat)) ∧ (wc.alloc (.cells #[.int .i64 5, .int .i64 0, .int .i64 0, .string nob, .int .i64 0, .int .i64 0, .int .i64 0, .int .i64 0, .string (sg4 y), .slice A 2 2, .int .i64 1, .int .i64 2, .int .i64 (d : Nat), .string nob, .int .i64 0, .int .i64 0, .int .i64 0, .int .i64 0, .string nob, .slice none 0 0] 30)).drew.cell? ⟨w.heap.size + 1, 3, none⟩ = some (.string nob) ∧ (wc.alloc (.cells #[.int .i64 5, .int .i64 0, .int .i64 0, .string nob, .int .i64 0, .int .i64 0, .int .i64 0, .int .i64 0, .string (sg4 y), .slice A 2 2, .int .i64 1, .int .i64 2, .int .i64 (d : Nat), .string nob, .int .i64 0, .int .i64 0, .int .i64 0, .int .i64 0, .string nob, .slice none 0 0] 30)).drew.cell? ⟨w.heap.size + 1, 4, none⟩ = some (.int .i64 0) ∧ (wc.alloc (.cells #[.int .i64 5, .int .i64 0, .int .i64 0, .string nob, .int .i64 0, .int .i64 0, .int .i64 0, .int .i64 0, .string (sg4 y), .slice A 2 2, .int .i64 1, .int .i64 2, .int .i64 (d : Nat), .string nob, .int .i64 0, .int .i64 0, .int .i64 0, .int .i64 0, .string nob, .slice none 0 0] 30)).drew.cell? ⟨w.heap.size + 1, 5, none⟩ = some (.int .i64 0) ∧ (wc.alloc (.cells #[.int .i64 5, .int .i64 0, .int .i64 0, .string nob, .int .i64 0, .int .i64 0, .int .i64 0, .int .i64 0, .string (sg4 y), .slice A 2 2, .int .i64 1, .int .i64 2, .int .i64 (d : Nat), .string nob, .int .i64 0, .int .i64 0, .int .i64 0, .int .i64 0, .string nob, .slice none 0 0] 30)).drew.cell? ⟨w.heap.size + 1, 6, none⟩ = some (.int .i64 0) ∧ (wc.alloc (.cells #[.int .i64 5, .int .i64 0, .int .i64 0, .string nob, .int .i64 0, .int .i64 0, .int .i64 0, .int .i64 0, .string (sg4 y), .slice A 2 2, .int .i64 1, .int .i64 2, .int .i64 (d : Nat), .string nob, .int .i64 0, .int .i64 0, .int .i64 0, .int .i64 0, .string nob, .slice none 0 0] 30)).drew.cell? ⟨w.heap.size + 1, 7, none⟩ = some (.int .i64 0) ∧ (wc.alloc (.cells #[.int .i64 5, .int .i64 0, .int .i64 0, .string nob, .int .i64 0, .int .i64 0, .int .i64 0, .int .i64 0, .string (sg4 y), .slice A 2 2, .int .i64 1, .int .i64 2, .int .i64 (d : Nat), .string nob, .int .i64 0, .int .i64 0, .int .i64 0, .int .i64 0, .string nob, .slice none 0 0] 30)).drew.cell? ⟨w.heap.size + 1, 8, none⟩ = some (.string nob) ∧ (wc.alloc (.cells #[.int .i64 5, .int .i64 0, .int .i64 0, .string nob, .int .i64 0, .int .i64 0, .int .i64 0, .int .i64 0, .string (sg4 y), .slice A 2 2, .int .i64 1, .int .i64 2, .int .i64 (d : Nat), .string nob, .int .i64 0, .int .i64 0, .int .i64 0, .int .i64 0, .string nob, .slice none 0 0] 30)).drew.cell? ⟨w.heap.size + 1, 9, none⟩ = some (.slice none 0 0) ∧ (wc.alloc (.cells #[.int .i64 5, .int .i64 0, .int .i64 0, .string nob, .int .i64 0, .int .i64 0, .int .i64 0, .int .i64 0, .string (sg4 y), .slice A 2 2, .int .i64 1, .int .i64 2, .int .i64 (d : Nat), .string nob, .int .i64 0, .int .i64 0, .int .i64 0, .int .i64 0, .string nob, .slice none 0 0] 30)).drew.cell? ⟨nb, 0, none⟩ = some (.int .i64 5) ∧ (wc.alloc (.cells #[.int .i64 5, .int .i64 0, .int .i64 0, .string nob, .int .i64 0, .int .i64 0, .int .i64 0, .int .i64 0, .string (sg4 y), .slice A 2 2, .int .i64 1, .int .i64 2, .int .i64 (d : Nat), .string nob, .int .i64 0, .int .i64 0, .int .i64 0, .int .i64 0, .string nob, .slice none 0 0] 30)).drew.cell? ⟨nb, 1, none⟩ = some (.int .i64 0) ∧ (wc.alloc (.cells #[.int .i64 5, .int .i64 0, .int .i64 0, .string nob, .int .i64 0, .int .i64 0, .int .i64 0, .int .i64 0, .string (sg4 y), .slice A 2 2, .int .i64 1, .int .i64 2, .int .i64 (d : Nat), .string nob, .int .i64 0, .int .i64 0, .int .i64 0, .int .i64 0, .string nob, .slice none 0 0] 30)).drew.cell? ⟨nb, 2, none⟩ = some (.int .i64 0) ∧ (wc.alloc (.cells #[.int .i64 5, .int .i64 0, .int .i64 0, .string nob, .int .i64 0, .int .i64 0, .int .i64 0, .int .i64 0, .string (sg4 y), .slice A 2 2, .int .i64 1, .int .i64 2, .int .i64 (d : Nat), .string nob, .int .i64 0, .int .i64 0, .int .i64 0, .int .i64 0, .string nob, .slice none 0 0] 30)).drew.cell? ⟨nb, 3, none⟩ = some (.string nob) ∧ (wc.alloc (.cells #[.int .i64 5, .int .i64 0, .int .i64 0, .string nob, .int .i64 0, .int .i64 0, .int .i64 0, .int .i64 0, .string (sg4 y), .slice A 2 2, .int .i64 1, .int .i64 2, .int .i64 (d : Nat), .string nob, .int .i64 0, .int .i64 0, .int .i64 0, .int .i64 0, .string nob, .slice none 0 0] 30)).drew.cell? ⟨nb, 4, none⟩ = some (.int .i64 0) ∧ (wc.alloc (.cells #[.int .i64 5, .int .i64 0, .int .i64 0, .string nob, .int .i64 0, .int .i64 0, .int .i64 0, .int .i64 0, .string (sg4 y), .slice A 2 2, .int .i64 1, .int .i64 2, .int .i64 (d : Nat), .string nob, .int .i64 0, .int .i64 0, .int .i64 0, .int .i64 0, .string nob, .slice none 0 0] 30)).drew.cell? ⟨nb, 5, none⟩ = some (.int .i64 0) ∧ (wc.alloc (.cells #[.int .i64 5, .int .i64 0, .int .i64 0, .string nob, .int .i64 0, .int .i64 0, .int .i64 0, .int .i64 0, .string (sg4 y), .slice A 2 2, .int .i64 1, .int .i64 2, .int .i64 (d : Nat), .string nob, .int .i64 0, .int .i64 0, .int .i64 0, .int .i64 0, .string nob, .slice none 0 0] 30)).drew.cell? ⟨nb, 6, none⟩ = some (.int .i64 0) ∧ (wc.alloc (.cells #[.int .i64 5, .int .i64 0, .int .i64 0, .string nob, .int .i64 0, .int .i64 0, .int .i64 0, .int .i64 0, .string (sg4 y), .slice A 2 2, .int .i64 1, .int .i64 2, .int .i64 (d : Nat), .string nob, .int .i64 0, .int .i64 0, .int .i64 0, .int .i64 0, .string nob, .slice none 0 0] 30)).drew.cell? ⟨nb, 7, none⟩ = some (.int .i64 0) ∧ (wc.alloc (.cells #[.int .i64 5, .int .i64 0, .int .i64 0, .string nob, .int .i64 0, .int .i64 0, .int .i64 0, .int .i64 0, .string (sg4 y), .slice A 2 2, .int .i64 1, .int .i64 2, .int .i64 (d : Nat), .string nob, .int .i64 0, .int .i64 0, .int .i64 0, .int .i64 0, .string nob, .slice none 0 0] 30)).drew.cell? ⟨nb, 8, none⟩ = some (.string (sg4 y)) ∧ (wc.alloc (.cells #[.int .i64 5, .int .i64 0, .int .i64 0, .string nob, .int .i64 0, .int .i64 0, .int .i64 0, .int .i64 0, .string (sg4 y), .slice A 2 2, .int .i64 1, .int .i64 2, .int .i64 (d : Nat), .string nob, .int .i64 0, .int .i64 0, .int .i64 0, .int .i64 0, .string nob, .slice none 0 0] 30)).drew.cell? ⟨nb, 9, none⟩ = some (.slice A 2 2) := ⟨cell_later HG1.out cx, cell_later HG1.out l0, cell_later HG1.out l1, cell_later HG1.out l2, cell_later HG1.out l3, cell_later HG1.out l4, cell_later HG1.out l5, cell_later HG1.out l6, cell_later HG1.out l7, cell_later HG1.out l8, cell_later HG1.out l9, cell_later HG1.out m0, cell_later HG1.out m1, cell_later HG1.out m2, cell_later HG1.out m3, cell_later HG1.out m4, cell_later HG1.out m5, cell_later HG1.out m6, cell_later HG1.out m7, cell_later HG1.out m8, cell_later HG1.out m9⟩
    have HSA := Lib.hid SA
    go_region_held3 (fun w' => w'.cell? ⟨w.heap.size, x, none⟩ = some (.string (sg4 x)) ∧ w'.cell? ⟨w.heap.size + 1, 0, none⟩ = some (.int .i64 1) ∧ w'.cell? ⟨w.heap.size + 1, 1, none⟩ = some (.int .i64 2) ∧ w'.cell? ⟨w.heap.size + 1, 2, none⟩ = some (.int .i64 (d : Nat)) ∧ w'.cell? ⟨w.heap.size + 1, 3, none⟩ = some (.string nob) ∧ w'.cell? ⟨w.heap.size + 1, 4, none⟩ = some (.int .i64 0) ∧ w'.cell? ⟨w.heap.size + 1, 5, none⟩ = some (.int .i64 0) ∧ w'.cell? ⟨w.heap.size + 1, 6, none⟩ = some (.int .i64 0) ∧ w'.cell? ⟨w.heap.size + 1, 7, none⟩ = some (.int .i64 0) ∧ w'.cell? ⟨w.heap.size + 1, 8, none⟩ = some (.string nob) ∧ w'.cell? ⟨w.heap.size + 1, 9, none⟩ = some (.slice none 0 0) ∧ w'.cell? ⟨nb, 0, none⟩ = some (.int .i64 5) ∧ w'.cell? ⟨nb, 1, none⟩ = some (.int .i64 0) ∧ w'.cell? ⟨nb, 2, none⟩ = some (.int .i64 0) ∧ w'.cell? ⟨nb, 3, none⟩ = some (.string nob) ∧ w'.cell? ⟨nb, 4, none⟩ = some (.int .i64 0) ∧ w'.cell? ⟨nb, 5, none⟩ = some (.int .i64 0) ∧ w'.cell? ⟨nb, 6, none⟩ = some (.int .i64 0) ∧ w'.cell? ⟨nb, 7, none⟩ = some (.int .i64 0) ∧ w'.cell? ⟨nb, 8, none⟩ = some (.string (sg4 y)) ∧ w'.cell? ⟨nb, 9, none⟩ = some (.slice A 2 2)) (first | with_reducible exact SD | with_reducible exact SA | with_reducible exact S9) ((first | (go_at_call 10; refine HTX.out.mono ?_; rintro e w9 ⟨rfl, hb9⟩; have S9 : w9.cell? ⟨w.heap.size, x, none⟩ = some (.string (sg4 x)) ∧ w9.cell? ⟨w.heap.size + 1, 0, none⟩ = some (.int .i64 1) ∧ w9.cell? ⟨w.heap.size + 1, 1, none⟩ = some (.int .i64 2) ∧ w9.cell? ⟨w.heap.size + 1, 2, none⟩ = some (.int .i64 (d : Nat)) ∧ w9.cell? ⟨w.heap.size + 1, 3, none⟩ = some (.string nob) ∧ w9.cell? ⟨w.heap.size + 1, 4, none⟩ = some (.int .i64 0) ∧ w9.cell? ⟨w.heap.size + 1, 5, none⟩ = some (.int .i64 0) ∧ w9.cell? ⟨w.heap.size + 1, 6, none⟩ = some (.int .i64 0) ∧ w9.cell? ⟨w.heap.size + 1, 7, none⟩ = some (.int .i64 0) ∧ w9.cell? ⟨w.heap.size + 1, 8, none⟩ = some (.string nob) ∧ w9.cell? ⟨w.heap.size + 1, 9, none⟩ = some (.slice none 0 0) ∧ w9.cell? ⟨nb, 0, none⟩ = some (.int .i64 5) ∧ w9.cell? ⟨nb, 1, none⟩ = some (.int .i64 0) ∧ w9.cell? ⟨nb, 2, none⟩ = some (.int .i64 0) ∧ w9.cell? ⟨nb, 3, none⟩ = some (.string nob) ∧ w9.cell? ⟨nb, 4, none⟩ = some (.int .i64 0) ∧ w9.cell? ⟨nb, 5, none⟩ = some (.int .i64 0) ∧ w9.cell? ⟨nb, 6, none⟩ = some (.int .i64 0) ∧ w9.cell? ⟨nb, 7, none⟩ = some (.int .i64 0) ∧ w9.cell? ⟨nb, 8, none⟩ = some (.string (sg4 y)) ∧ w9.cell? ⟨nb, 9, none⟩ = some (.slice A 2 2) := (by obtain ⟨cx, l0, l1, l2, l3, l4, l5, l6, l7, l8, l9, m0, m1, m2, m3, m4, m5, m6, m7, m8, m9⟩ := HSA.out; exact ⟨cell_later hb9 cx, cell_later hb9 l0, cell_later hb9 l1, cell_later hb9 l2, cell_later hb9 l3, cell_later hb9 l4, cell_later hb9 l5, cell_later hb9 l6, cell_later hb9 l7, cell_later hb9 l8, cell_later hb9 l9, cell_later hb9 m0, cell_later hb9 m1, cell_later hb9 m2, cell_later hb9 m3, cell_later hb9 m4, cell_later hb9 m5, cell_later hb9 m6, cell_later hb9 m7, cell_later hb9 m8, cell_later hb9 m9⟩))))
    all_goals (go_wp2_with fail)
    all_goals (go_meet)
    all_goals exact ⟨rfl, rfl, Lib.hid (HT.out.later (HG1.out.trans (hb9.mono HG1.out.size)))⟩
  case rest =>
  rename_i wd
  obtain ⟨rfl, rfl, HT2⟩ := hcut
  clear HT HTX HG1 cx cy n0 n1 n2 n3 n4 n5 l0 l1 l2 l3 l4 l5 l6 l7 l8 l9 m0 m1 m2 m3 m4 m5 m6 m7 m8 m9
  have HT := HT2
  clear HT2
  have BW := HT.out.below
  have cx := HT.out.sx
  have cy := HT.out.sy
  obtain ⟨A, hN, hKI⟩ := HT.out.node
  have n0 : w.heap.size < wc.heap.size := World.block_lt_of_cell? wc _ cx
  have n1 : w.heap.size + 1 < wc.heap.size := HT.out.leaf.lt
  have n2 : nb < wc.heap.size := hN.lt
  have n3 : w.heap.size ≠ wc.heap.size := by omega
  have n4 : w.heap.size + 1 ≠ wc.heap.size := by omega
  have n5 : nb ≠ wc.heap.size := by omega
  obtain ⟨l0, l1, l2, l3, l4, l5, l6, l7, l8, l9, -⟩ := HT.out.leaf.cells
  simp only [leafF] at l0 l1 l2 l3 l4 l5 l6 l7 l8 l9
  obtain ⟨m0, m1, m2, m3, m4, m5, m6, m7, m8, m9, -⟩ := hN.cells
  simp only [binF] at m0 m1 m2 m3 m4 m5 m6 m7 m8 m9
  have g1 : Below wc.heap.size wc (wc.alloc (.cells #[.int .i64 1, .int .i64 2, .int .i64 (d : Nat), .string nob, .int .i64 0, .int .i64 0, .int .i64 0, .int .i64 0, .string nob, .slice none 0 0, .int .i64 5, .int .i64 0, .int .i64 0, .string nob, .int .i64 0, .int .i64 0, .int .i64 0, .int .i64 0, .string (sg4 y), .slice A 2 2] 30)).drew := below_drewN' ((Below.refl _ _).alloc (Nat.le_refl _) _) 1
  have HTX : Hid (Calls Tryz.prog 10 #[.agg #[.int .i64 5, .int .i64 0, .int .i64 0, .string { data := #[] }, .int .i64 0, .int .i64 0, .int .i64 0, .int .i64 0, .string (sg4 x), .slice (some ⟨wc.heap.size, 0, none⟩) 2 2]] (wc.alloc (.cells #[.int .i64 1, .int .i64 2, .int .i64 (d : Nat), .string nob, .int .i64 0, .int .i64 0, .int .i64 0, .int .i64 0, .string nob, .slice none 0 0, .int .i64 5, .int .i64 0, .int .i64 0, .string nob, .int .i64 0, .int .i64 0, .int .i64 0, .int .i64 0, .string (sg4 y), .slice A 2 2] 30)).drew fun e w' => e = .returned (.tuple #[.string (str (resB x y d)), .int .i64 0]) ∧ Below (wc.alloc (.cells #[.int .i64 1, .int .i64 2, .int .i64 (d : Nat), .string nob, .int .i64 0, .int .i64 0, .int .i64 0, .int .i64 0, .string nob, .slice none 0 0, .int .i64 5, .int .i64 0, .int .i64 0, .string nob, .int .i64 0, .int .i64 0, .int .i64 0, .int .i64 0, .string (sg4 y), .slice A 2 2] 30)).drew.heap.size (wc.alloc (.cells #[.int .i64 1, .int .i64 2, .int .i64 (d : Nat), .string nob, .int .i64 0, .int .i64 0, .int .i64 0, .int .i64 0, .string nob, .slice none 0 0, .int .i64 5, .int .i64 0, .int .i64 0, .string nob, .int .i64 0, .int .i64 0, .int .i64 0, .int .i64 0, .string (sg4 y), .slice A 2 2] 30)).drew w') := Lib.hid (by
    have := cText (tB x y d) (some ⟨wc.heap.size, 0, none⟩) 2 (wc.alloc (.cells #[.int .i64 1, .int .i64 2, .int .i64 (d : Nat), .string nob, .int .i64 0, .int .i64 0, .int .i64 0, .int .i64 0, .string nob, .slice none 0 0, .int .i64 5, .int .i64 0, .int .i64 0, .string nob, .int .i64 0, .int .i64 0, .int .i64 0, .int .i64 0, .string (sg4 y), .slice A 2 2] 30)).drew (by show 5 ≤ 1990; decide) (wide_all x y d hd).2.1 (HL.out.below (BW.trans (g1.mono BW.size))) (row_new (W := wc) (f := leafF d) (g := binF (sg4 y)) (A := none) (B := A) (k := .nil) (m := kids2 d) (c := 0) (e := 2) (Or.inl rfl) hKI g1 (by show wc.heap.size < (wc.alloc (.cells #[.int .i64 1, .int .i64 2, .int .i64 (d : Nat), .string nob, .int .i64 0, .int .i64 0, .int .i64 0, .int .i64 0, .string nob, .slice none 0 0, .int .i64 5, .int .i64 0, .int .i64 0, .string nob, .int .i64 0, .int .i64 0, .int .i64 0, .int .i64 0, .string (sg4 y), .slice A 2 2] 30)).heap.size; simp) (heap_alloc_new _ _))
    rw [(tight_texts x y d hx hy hd).2.1] at this
    exact this)
  have HG1 := Lib.hid g1
  clear g1 hN hKI BW
  go_upto_region 6 with fail
  go_cut [14, 15] from 55 to 66 (fun s1 s2 wc => s1 = .string (str (resB x y d)) ∧ s2 = .int .i64 0 ∧ Hid (TIn w x y d nb wc))
  case first =>
    have SD : wc.drew.cell? ⟨w.heap.size, x, none⟩ = some (.string (sg4 x)) ∧ wc.drew.cell? ⟨w.heap.size + 1, 0, none⟩ = some (.int .i64 1) ∧ wc.drew.cell? ⟨w.heap.size + 1, 1, none⟩ = some (.int .i64 2) ∧ wc.drew.cell? ⟨w.heap.size + 1, 2, none⟩ = some (.int .i64 (d : Nat)) ∧ wc.drew.cell? ⟨w.heap.size + 1, 3, none⟩ = some (.string nob) ∧ wc.drew.cell? ⟨w.heap.size + 1, 4, none⟩ = some (.int .i64 0) ∧ wc.drew.cell? ⟨w.heap.size + 1, 5, none⟩ = some (.int .i64 0) ∧ wc.drew.cell? ⟨w.heap.size + 1, 6, none⟩ = some (.int .i64 0) ∧ wc.drew.cell? ⟨w.heap.size + 1, 7, none⟩ = some (.int .i64 0) ∧ wc.drew.cell? ⟨w.heap.size + 1, 8, none⟩ = some (.string nob) ∧ wc.drew.cell? ⟨w.heap.size + 1, 9, none⟩ = some (.slice none 0 0) ∧ wc.drew.cell? ⟨nb, 0, none⟩ = some (.int .i64 5) ∧ wc.drew.cell? ⟨nb, 1, none⟩ = some (.int .i64 0) ∧ wc.drew.cell? ⟨nb, 2, none⟩ = some (.int .i64 0) ∧ wc.drew.cell? ⟨nb, 3, none⟩ = some (.string nob) ∧ wc.drew.cell? ⟨nb, 4, none⟩ = some (.int .i64 0) ∧ wc.drew.cell? ⟨nb, 5, none⟩ = some (.int .i64 0) ∧ wc.drew.cell? ⟨nb, 6, none⟩ = some (.int .i64 0) ∧ wc.drew.cell? ⟨nb, 7, none⟩ = some (.int .i64 0) ∧ wc.drew.cell? ⟨nb, 8, none⟩ = some (.string (sg4 y)) ∧ wc.drew.cell? ⟨nb, 9, none⟩ = some (.slice A 2 2) := ⟨cx, l0, l1, l2, l3, l4, l5, l6, l7, l8, l9, m0, m1, m2, m3, m4, m5, m6, m7, m8, m9⟩
    have SA : (wc.alloc (.cells #[.int .i64 1, .int .i64 2, .int .i64 (d : Nat), .string nob, .int .i64 0, .int .i64 0, .int .i64 0, .int .i64 0, .string nob, .slice none 0 0, .int .i64 5, .int .i64 0, .int .i64 0, .string nob, .int .i64 0, .int .i64 0, .int .i64 0, .int .i64 0, .string (sg4 y), .slice A 2 2] 30)).drew.cell? ⟨w.heap.size, x, none⟩ = some (.string (sg4 x)) ∧ (wc.alloc (.cells #[.int .i64 1, .int .i64 2, .int .i64 (d : Nat), .string nob, .int .i64 0, .int .i64 0, .int .i64 0, .int .i64 0, .string nob, .slice none 0 0, .int .i64 5, .int .i64 0, .int .i64 0, .string nob, .int .i64 0, .int .i64 0, .int .i64 0, .int .i64 0, .string (sg4 y), .slice A 2 2] 30)).drew.cell? ⟨w.heap.size + 1, 0, none⟩ = some (.int .i64 1) ∧ (wc.alloc (.cells #[.int .i64 1, .int .i64 2, .int .i64 (d : Nat), .string nob, .int .i64 0, .int .i64 0, .int .i64 0, .int .i64 0, .string nob, .slice none 0 0, .int .i64 5, .int .i64 0, .int .i64 0, .string nob, .int .i64 0, .int .i64 0, .int .i64 0, .int .i64 0, .string (sg4 y), .slice A 2 2] 30)).drew.cell? ⟨w.heap.size + 1, 1, none⟩ = some (.int .i64 2) ∧ (wc.alloc (.cells #[.int .i64 1, .int .i64 2, .int .i64 (d : Nat), .string nob, .int .i64 0, .int .i64 0, .int .i64 0, .int .i64 0, .string nob, .slice none 0 0, .int .i64 5, .int .i64 0, .int .i64 0, .string nob, .int .i64 0, .int .i64 0, .int .i64 0, .int .i64 0, .string (sg4 y), .slice A 2 2] 30)).drew.cell? ⟨w.heap.size + 1, 2, none⟩ = some (.int .i64 (d : Nat)) ∧ (wc.alloc (.cells #[.int .i64 1, .int .i64 2, .int .i64 (d : Nat), .string nob, .int .i64 0, .int .i64 0, .int .i64 0, .int .i64 0, .string nob, .slice none 0 0, .int .i64 5, .int .i64 0, .int .i64 0, .string nob, .int .i64 0, .int .i64 0, .int .i64 0, .int .i64 0, .string (sg4 y), .slice A 2 2] 30)).drew.cell? ⟨w.heap.size + 1, 3, none⟩ = some (.string nob) ∧ (wc.alloc (.cells #[.int .i64 1, .int .i64 2, .int .i64 (d : Nat), .string nob, .int .i64 0, .int .i64 0, .int .i64 0, .int .i64 0, .string nob, .slice none 0 0, .int .i64 5, .int .i64 0, .int .i64 0, .string nob, .int .i64 0, .int .i64 0, .int .i64 0, .int .i64 0, .string (sg4 y), .slice A 2 2] 30)).drew.cell? ⟨w.heap.size + 1, 4, none⟩ = some (.int .i64 0) ∧ (wc.alloc (.cells #[.int .i64 1, .int .i64 2, .int .i64 (d : Nat), .string nob, .int .i64 0, .int .i64 0, .int .i64 0, .int .i64 0, .string nob, .slice none 0 0, .int .i64 5, .int .i64 0, .int .i64 0, .string nob, .int .i64 0, .int .i64 0, .int .i64 0, .int .i64 0, .string (sg4 y), .slice A 2 2] 30)).drew.cell? ⟨w.heap.size + 1, 5, none⟩ = some (.int .i64 0) ∧ (wc.alloc (.cells #[.int .i64 1, .int .i64 2, .int .i64 (d : Nat), .string nob, .int .i64 0, .int .i64 0, .int .i64 0, .int .i64 0, .string nob, .slice none 0 0, .int .i64 5, .int .i64 0, .int .i64 0, .string nob, .int .i64 0, .int .i64 0, .int .i64 0, .int .i64 0, .string (sg4 y), .slice A 2 2] 30)).drew.cell? ⟨w.heap.size + 1, 6, none⟩ = some (.int .i64 0) ∧ (wc.alloc (.cells #[.int .i64 1, .int .i64 2, .int .i64 (d : Nat), .string nob, .int .i64 0, .int .i64 0, .int .i64 0, .int .i64 0, .string nob, .slice none 0 0, .int .i64 5, .int .i64 0, .int .i64 0, .string nob, .int .i64 0, .int .i64 0, .int .i64 0, .int .i64 0, .string (sg4 y), .slice A 2 2] 30)).drew.cell? ⟨w.heap.size + 1, 7, none⟩ = some (.int .i64 0) ∧ (wc.alloc (.cells #[.int .i64 1, .int .i64 2, .int .i64 (d : Nat), .string nob, .int .i64 0, .int .i64 0, .int .i64 0, .int .i64 0, .string nob, .slice none 0 0, .int .i64 5, .int .i64 0, .int .i64 0, .string nob, .int .i64 0, .int .i64 0, .int .i64 0, .int .i64 0, .string (sg4 y), .slice A 2 2] 30)).drew.cell? ⟨w.heap.size + 1, 8, none⟩ = some (.string nob) ∧ (wc.alloc (.cells #[.int .i64 1, .int .i64 2, .int .i64 (d : Nat), .string nob, .int .i64 0, .int .i64 0, .int .i64 0, .int .i64 0, .string nob, .slice none 0 0, .int .i64 5, .int .i64 0, .int .i64 0, .string nob, .int .i64 0, .int .i64 0, .int .i64 0, .int .i64 0, .string (sg4 y), .slice A 2 2] 30)).drew.cell? ⟨w.heap.size + 1, 9, none⟩ = some (.slice none 0 0) ∧ (wc.alloc (.cells #[.int .i64 1, .int .i64 2, .int .i64 (d : Nat), .string nob, .int .i64 0, .int .i64 0, .int .i64 0, .int .i64 0, .string nob, .slice none 0 0, .int .i64 5, .int .i64 0, .int .i64 0, .string nob, .int .i64 0, .int .i64 0, .int .i64 0, .int .i64 0, .string (sg4 y), .slice A 2 2] 30)).drew.cell? ⟨nb, 0, none⟩ = some (.int .i64 5) ∧ (wc.alloc (.cells #[.int .i64 1, .int .i64 2, .int .i64 (d : Nat), .string nob, .int .i64 0, .int .i64 0, .int .i64 0, .int .i64 0, .string nob, .slice none 0 0, .int .i64 5, .int .i64 0, .int .i64 0, .string nob, .int .i64 0, .int .i64 0, .int .i64 0, .int .i64 0, .string (sg4 y), .slice A 2 2] 30)).drew.cell? ⟨nb, 1, none⟩ = some (.int .i64 0) ∧ (wc.alloc (.cells #[.int .i64 1, .int .i64 2, .int .i64 (d : Nat), .string nob, .int .i64 0, .int .i64 0, .int .i64 0, .int .i64 0, .string nob, .slice none 0 0, .int .i64 5, .int .i64 0, .int .i64 0, .string nob, .int .i64 0, .int .i64 0, .int .i64 0, .int .i64 0, .string (sg4 y), .slice A 2 2] 30)).drew.cell? ⟨nb, 2, none⟩ = some (.int .i64 0) ∧ (wc.alloc (.cells #[.int .i64 1, .int .i64 2, .int .i64 (d : Nat), .string nob, .int .i64 0, .int .i64 0, .int .i64 0, .int .i64 0, .string nob, .slice none 0 0, .int .i64 5, .int .i64 0, .int .i64 0, .string nob, .int .i64 0, .int .i64 0, .int .i64 0, .int .i64 0, .string (sg4 y), .slice A 2 2] 30)).drew.cell? ⟨nb, 3, none⟩ = some (.string nob) ∧ (wc.alloc (.cells #[.int .i64 1, .int .i64 2, .int .i64 (d : Nat), .string nob, .int .i64 0, .int .i64 0, .int .i64 0, .int .i64 0, .string nob, .slice none 0 0, .int .i64 5, .int .i64 0, .int .i64 0, .string nob, .int .i64 0, .int .i64 0, .int .i64 0, .int .i64 0, .string (sg4 y), .slice A 2 2] 30)).drew.cell? ⟨nb, 4, none⟩ = some (.int .i64 0) ∧ (wc.alloc (.cells #[.int .i64 1, .int .i64 2, .int .i64 (d : Nat), .string nob, .int .i64 0, .int .i64 0, .int .i64 0, .int .i64 0, .string nob, .slice none 0 0, .int .i64 5, .int .i64 0, .int .i64 0, .string nob, .int .i64 0, .int .i64 0, .int .i64 0, .int .i64 0, .string (sg4 y), .slice A 2 2] 30)).drew.cell? ⟨nb, 5, none⟩ = some (.int .i64 0) ∧ (wc.alloc (.cells #[.int .i64 1, .int .i64 2, .int .i64 (d : Nat), .string nob, .int .i64 0, .int .i64 0, .int .i64 0, .int .i64 0, .string nob, .slice none 0 0, .int .i64 5, .int .i64 0, .int .i64 0, .string nob, .int .i64 0, .int .i64 0, .int .i64 0, .int .i64 0, .string (sg4 y), .slice A 2 2] 30)).drew.cell? ⟨nb, 6, none⟩ = some (.int .i64 0) ∧ (wc.alloc (.cells #[.int .i64 1, .int .i64 2, .int .i64 (d : Nat), .string nob, .int .i64 0, .int .i64 0, .int .i64 0, .int .i64 0, .string nob, .slice none 0 0, .int .i64 5, .int .i64 0, .int .i64 0, .string nob, .int .i64 0, .int .i64 0, .int .i64 0, .int .i64 0, .string (sg4 y), .slice A 2 2] 30)).drew.cell? ⟨nb, 7, none⟩ = some (.int .i64 0) ∧ (wc.alloc (.cells #[.int .i64 1, .int .i64 2, .int .i64 (d : Nat), .string nob, .int .i64 0, .int .i64 0, .int .i64 0, .int .i64 0, .string nob, .slice none 0 0, .int .i64 5, .int .i64 0, .int .i64 0, .string nob, .int .i64 0, .int .i64 0, .int .i64 0, .int .i64 0, .string (sg4 y), .slice A 2 2] 30)).drew.cell? ⟨nb, 8, none⟩ = some (.string (sg4 y)) ∧ (wc.alloc (.cells #[.int .i64 1, .int .i64 2, .int .i64 (d : Nat), .string nob, .int .i64 0, .int .i64 0, .int .i64 0, .int .i64 0, .string nob, .slice none 0 0, .int .i64 5, .int .i64 0, .int .i64 0, .string nob, .int .i64 0, .int .i64 0, .int .i64 0, .int .i64 0, .string (sg4 y), .slice A 2 2] 30)).drew.cell? ⟨nb, 9, none⟩ = some (.slice A 2 2) := ⟨cell_later HG1.out cx, cell_later HG1.out l0, cell_later HG1.out l1, cell_later HG1.out l2, cell_later HG1.out l3, cell_later HG1.out l4, cell_later HG1.out l5, cell_later HG1.out l6, cell_later HG1.out l7, cell_later HG1.out l8, cell_later HG1.out l9, cell_later HG1.out m0, cell_later HG1.out m1, cell_later HG1.out m2, cell_later HG1.out m3, cell_later HG1.out m4, cell_later HG1.out m5, cell_later HG1.out m6, cell_later HG1.out m7, cell_later HG1.out m8, cell_later HG1.out m9⟩
    have HSA := Lib.hid SA
    go_region_held3 (fun w' => w'.cell? ⟨w.heap.size, x, none⟩ = some (.string (sg4 x)) ∧ w'.cell? ⟨w.heap.size + 1, 0, none⟩ = some (.int .i64 1) ∧ w'.cell? ⟨w.heap.size + 1, 1, none⟩ = some (.int .i64 2) ∧ w'.cell? ⟨w.heap.size + 1, 2, none⟩ = some (.int .i64 (d : Nat)) ∧ w'.cell? ⟨w.heap.size + 1, 3, none⟩ = some (.string nob) ∧ w'.cell? ⟨w.heap.size + 1, 4, none⟩ = some (.int .i64 0) ∧ w'.cell? ⟨w.heap.size + 1, 5, none⟩ = some (.int .i64 0) ∧ w'.cell? ⟨w.heap.size + 1, 6, none⟩ = some (.int .i64 0) ∧ w'.cell? ⟨w.heap.size + 1, 7, none⟩ = some (.int .i64 0) ∧ w'.cell? ⟨w.heap.size + 1, 8, none⟩ = some (.string nob) ∧ w'.cell? ⟨w.heap.size + 1, 9, none⟩ = some (.slice none 0 0) ∧ w'.cell? ⟨nb, 0, none⟩ = some (.int .i64 5) ∧ w'.cell? ⟨nb, 1, none⟩ = some (.int .i64 0) ∧ w'.cell? ⟨nb, 2, none⟩ = some (.int .i64 0) ∧ w'.cell? ⟨nb, 3, none⟩ = some (.string nob) ∧ w'.cell? ⟨nb, 4, none⟩ = some (.int .i64 0) ∧ w'.cell? ⟨nb, 5, none⟩ = some (.int .i64 0) ∧ w'.cell? ⟨nb, 6, none⟩ = some (.int .i64 0) ∧ w'.cell? ⟨nb, 7, none⟩ = some (.int .i64 0) ∧ w'.cell? ⟨nb, 8, none⟩ = some (.string (sg4 y)) ∧ w'.cell? ⟨nb, 9, none⟩ = some (.slice A 2 2)) (first | with_reducible exact SD | with_reducible exact SA | with_reducible exact S9) ((first | (go_at_call 10; refine HTX.out.mono ?_; rintro e w9 ⟨rfl, hb9⟩; have S9 : w9.cell? ⟨w.heap.size, x, none⟩ = some (.string (sg4 x)) ∧ w9.cell? ⟨w.heap.size + 1, 0, none⟩ = some (.int .i64 1) ∧ w9.cell? ⟨w.heap.size + 1, 1, none⟩ = some (.int .i64 2) ∧ w9.cell? ⟨w.heap.size + 1, 2, none⟩ = some (.int .i64 (d : Nat)) ∧ w9.cell? ⟨w.heap.size + 1, 3, none⟩ = some (.string nob) ∧ w9.cell? ⟨w.heap.size + 1, 4, none⟩ = some (.int .i64 0) ∧ w9.cell? ⟨w.heap.size + 1, 5, none⟩ = some (.int .i64 0) ∧ w9.cell? ⟨w.heap.size + 1, 6, none⟩ = some (.int .i64 0) ∧ w9.cell? ⟨w.heap.size + 1, 7, none⟩ = some (.int .i64 0) ∧ w9.cell? ⟨w.heap.size + 1, 8, none⟩ = some (.string nob) ∧ w9.cell? ⟨w.heap.size + 1, 9, none⟩ = some (.slice none 0 0) ∧ w9.cell? ⟨nb, 0, none⟩ = some (.int .i64 5) ∧ w9.cell? ⟨nb, 1, none⟩ = some (.int .i64 0) ∧ w9.cell? ⟨nb, 2, none⟩ = some (.int .i64 0) ∧ w9.cell? ⟨nb, 3, none⟩ = some (.string nob) ∧ w9.cell? ⟨nb, 4, none⟩ = some (.int .i64 0) ∧ w9.cell? ⟨nb, 5, none⟩ = some (.int .i64 0) ∧ w9.cell? ⟨nb, 6, none⟩ = some (.int .i64 0) ∧ w9.cell? ⟨nb, 7, none⟩ = some (.int .i64 0) ∧ w9.cell? ⟨nb, 8, none⟩ = some (.string (sg4 y)) ∧ w9.cell? ⟨nb, 9, none⟩ = some (.slice A 2 2) := (by obtain ⟨cx, l0, l1, l2, l3, l4, l5, l6, l7, l8, l9, m0, m1, m2, m3, m4, m5, m6, m7, m8, m9⟩ := HSA.out; exact ⟨cell_later hb9 cx, cell_later hb9 l0, cell_later hb9 l1, cell_later hb9 l2, cell_later hb9 l3, cell_later hb9 l4, cell_later hb9 l5, cell_later hb9 l6, cell_later hb9 l7, cell_later hb9 l8, cell_later hb9 l9, cell_later hb9 m0, cell_later hb9 m1, cell_later hb9 m2, cell_later hb9 m3, cell_later hb9 m4, cell_later hb9 m5, cell_later hb9 m6, cell_later hb9 m7, cell_later hb9 m8, cell_later hb9 m9⟩))))
    all_goals (go_wp2_with fail)
    all_goals (go_meet)
    all_goals exact ⟨rfl, rfl, Lib.hid (HT.out.later (HG1.out.trans (hb9.mono HG1.out.size)))⟩
  case rest =>
  rename_i we
  obtain ⟨rfl, rfl, HT2⟩ := hcut
  clear HT HTX HG1 cx cy n0 n1 n2 n3 n4 n5 l0 l1 l2 l3 l4 l5 l6 l7 l8 l9 m0 m1 m2 m3 m4 m5 m6 m7 m8 m9
  have HT := HT2
  clear HT2
  have BW := HT.out.below
  have cx := HT.out.sx
  have cy := HT.out.sy
  obtain ⟨A, hN, hKI⟩ := HT.out.node
  have n0 : w.heap.size < wc.heap.size := World.block_lt_of_cell? wc _ cx
  have n1 : w.heap.size + 1 < wc.heap.size := HT.out.leaf.lt
  have n2 : nb < wc.heap.size := hN.lt
  have n3 : w.heap.size ≠ wc.heap.size := by omega
  have n4 : w.heap.size + 1 ≠ wc.heap.size := by omega
  have n5 : nb ≠ wc.heap.size := by omega
  obtain ⟨l0, l1, l2, l3, l4, l5, l6, l7, l8, l9, -⟩ := HT.out.leaf.cells
  simp only [leafF] at l0 l1 l2 l3 l4 l5 l6 l7 l8 l9
  obtain ⟨m0, m1, m2, m3, m4, m5, m6, m7, m8, m9, -⟩ := hN.cells
  simp only [binF] at m0 m1 m2 m3 m4 m5 m6 m7 m8 m9
  have g1 : Below wc.heap.size wc (wc.alloc (.cells #[.int .i64 5, .int .i64 0, .int .i64 0, .string nob, .int .i64 0, .int .i64 0, .int .i64 0, .int .i64 0, .string (sg4 y), .slice A 2 2] 30)) := (Below.refl _ _).alloc (Nat.le_refl _) _
  have HTX : Hid (Calls Tryz.prog 10 #[.agg #[.int .i64 4, .int .i64 0, .int .i64 0, .string { data := #[] }, .int .i64 0, .int .i64 0, .int .i64 0, .int .i64 0, .string { data := #[] }, .slice (some ⟨wc.heap.size, 0, none⟩) 1 1]] (wc.alloc (.cells #[.int .i64 5, .int .i64 0, .int .i64 0, .string nob, .int .i64 0, .int .i64 0, .int .i64 0, .int .i64 0, .string (sg4 y), .slice A 2 2] 30)) fun e w' => e = .returned (.tuple #[.string (str (resC y d)), .int .i64 0]) ∧ Below (wc.alloc (.cells #[.int .i64 5, .int .i64 0, .int .i64 0, .string nob, .int .i64 0, .int .i64 0, .int .i64 0, .int .i64 0, .string (sg4 y), .slice A 2 2] 30)).heap.size (wc.alloc (.cells #[.int .i64 5, .int .i64 0, .int .i64 0, .string nob, .int .i64 0, .int .i64 0, .int .i64 0, .int .i64 0, .string (sg4 y), .slice A 2 2] 30)) w') := Lib.hid (by
    have := cText (tC y d) (some ⟨wc.heap.size, 0, none⟩) 1 (wc.alloc (.cells #[.int .i64 5, .int .i64 0, .int .i64 0, .string nob, .int .i64 0, .int .i64 0, .int .i64 0, .int .i64 0, .string (sg4 y), .slice A 2 2] 30)) (by show 4 ≤ 1990; decide) (wide_all x y d hd).2.2 (HL.out.below (BW.trans (g1.mono BW.size))) (row_one (W := wc) (f := binF (sg4 y)) (A := A) (k := kids2 d) (c := 2) hKI g1 (by simp) (heap_alloc_new _ _))
    rw [(tight_texts x y d hx hy hd).2.2] at this
    exact this)
  have HG1 := Lib.hid g1
  clear g1 hN hKI BW
  go_wp2_with fail
  refine HTX.out.mono ?_; rintro e w7 ⟨rfl, hb7⟩
  have HT7 := HT.out.later (HG1.out.trans (hb7.mono HG1.out.size))
  clear HT HTX HG1 hb7 cx cy n0 n1 n2 n3 n4 n5 l0 l1 l2 l3 l4 l5 l6 l7 l8 l9 m0 m1 m2 m3 m4 m5 m6 m7 m8 m9
  have B7 := HT7.below
  have g8 : Below w7.heap.size w7 (w7.alloc (.cells #[.int .u8 (48 + (d : Int))] 5)) := (Below.refl _ _).alloc (Nat.le_refl _) _
  have cx := cell_later g8 HT7.sx
  have cy := cell_later g8 HT7.sy
  have B8 := Lib.hid (B7.trans (g8.mono B7.size))
  clear HT7 B7 g8
  obtain ⟨bd, HBD⟩ : ∃ z, Hid (z = UInt8.ofNat (48 + d)) := ⟨_, Lib.hid rfl⟩
  have kc := fun (W : World) (m : Nat) => conv_one6 W (48 + (d : Int)) m
  rw [show (48 + (d : Int)).toNat = 48 + d from by omega, ← HBD.out] at kc
  have eD : str (dL d) = { data := #[bd] } := by rw [HBD.out]; rfl
  have eCore : str (coreL y d) = { data := #[bd] } ++ sg4 y ++ { data := #[bd] } := by
    unfold coreL sg4
    rw [← eD, str_app, str_app]
  have eWrap : str (wrapL y d) = { data := #[40] } ++ ({ data := #[bd] } ++ sg4 y ++ { data := #[bd] }) ++ { data := #[41] } := by
    rw [← eCore, wrap_str]; rfl
  have eA : str (resA x y d) = str (leftL x y d) ++ sg4 x ++ { data := #[bd] } := by
    unfold resA sg4
    rw [← eD, str_app, str_app]
  have eB : str (resB x y d) = { data := #[bd] } ++ sg4 x ++ str (rightL x y d) := by
    unfold resB sg4
    rw [← eD, str_app, str_app]
  have eC : str (resC y d) = { data := #[45] } ++ ({ data := #[40] } ++ ({ data := #[bd] } ++ sg4 y ++ { data := #[bd] }) ++ { data := #[41] }) := by
    rw [← eWrap]
    show str _ = str [45] ++ str _
    rw [str_app]; rfl
  have zx : (sg4 x).size = 1 := by
    have h4 : x = 0 ∨ x = 1 ∨ x = 2 ∨ x = 3 := by omega
    rcases h4 with rfl | rfl | rfl | rfl <;> rfl
  have zy : (sg4 y).size = 1 := by
    have h4 : y = 0 ∨ y = 1 ∨ y = 2 ∨ y = 3 := by omega
    rcases h4 with rfl | rfl | rfl | rfl <;> rfl
  rw [eA, eB, eC]
  clear eA eB eC eD HBD
  have eL : leftL x y d = if (decide (x < y) || (decide (y = x) && (decide (x = 1) || decide (x = 2)))) = true then coreL y d else wrapL y d := rfl
  have eR : rightL x y d = if (decide (x < y) || (decide (y = x) && decide (x = 3))) = true then coreL y d else wrapL y d := rfl
  by_cases hxy : x < y
  · have dc : decide ((x : Int) < (y : Int)) = true := decide_eq_true (by omega)
    rw [if_pos (by simp [hxy])] at eL eR
    rw [eL, eCore, eR, eCore]
    generalize sg4 x = sx at *
    generalize sg4 y = sy at *
    clear eL eR eCore eWrap
    go_wp2_with fail
    refine (HW.out _ B8.out).mono ?_; rintro e w9 ⟨rfl, hb9⟩
    go_wp2_with fail
    go_ret
    exact ⟨ret1 rfl, B8.out.trans (hb9.mono B8.out.size)⟩
  by_cases hyx : y = x
  · have h4 : x = 0 ∨ x = 1 ∨ x = 2 ∨ x = 3 := by omega
    have dc : decide ((x : Int) < (y : Int)) = false := decide_eq_false (by omega)
    have de : ((y : Int) == (x : Int)) = true := beq_iff_eq.2 (by omega)
    have HYX := Lib.hid hyx
    have HXY := Lib.hid hxy
    rcases h4 with h0 | h0 | h0 | h0
    · have hl : (decide (x < y) || (decide (y = x) && (decide (x = 1) || decide (x = 2)))) = false := by simp [hyx, h0]
      have hr : (decide (x < y) || (decide (y = x) && decide (x = 3))) = false := by simp [hyx, h0]
      rw [if_neg (by rw [hl]; decide)] at eL
      rw [if_neg (by rw [hr]; decide)] at eR
      have d1 : ((x : Int) == 1) = false := beq_eq_false_iff_ne.2 (by omega)
      have d2 : ((x : Int) == 2) = false := beq_eq_false_iff_ne.2 (by omega)
      have d3 : ((x : Int) == 3) = false := beq_eq_false_iff_ne.2 (by omega)
      have dn : y ≤ x := by omega
      have H0 := Lib.hid h0
      clear hl hr h0 hyx hxy
      rw [eL, eWrap, eR, eWrap]
      generalize sg4 x = sx at *
      generalize sg4 y = sy at *
      clear eL eR eCore eWrap
      go_wp2_with fail
      refine (HW.out _ B8.out).mono ?_; rintro e w9 ⟨rfl, hb9⟩
      go_wp2_with fail
      go_ret
      exact ⟨ret1 rfl, B8.out.trans (hb9.mono B8.out.size)⟩
    · have hl : (decide (x < y) || (decide (y = x) && (decide (x = 1) || decide (x = 2)))) = true := by simp [hyx, h0]
      have hr : (decide (x < y) || (decide (y = x) && decide (x = 3))) = false := by simp [hyx, h0]
      rw [if_pos hl] at eL
      rw [if_neg (by rw [hr]; decide)] at eR
      have d1 : ((x : Int) == 1) = true := beq_iff_eq.2 (by omega)
      have d2 : ((x : Int) == 2) = false := beq_eq_false_iff_ne.2 (by omega)
      have d3 : ((x : Int) == 3) = false := beq_eq_false_iff_ne.2 (by omega)
      have dn : y ≤ x := by omega
      have H0 := Lib.hid h0
      clear hl hr h0 hyx hxy
      rw [eL, eCore, eR, eWrap]
      generalize sg4 x = sx at *
      generalize sg4 y = sy at *
      clear eL eR eCore eWrap
      go_wp2_with fail
      refine (HW.out _ B8.out).mono ?_; rintro e w9 ⟨rfl, hb9⟩
      go_wp2_with fail
      go_ret
      exact ⟨ret1 rfl, B8.out.trans (hb9.mono B8.out.size)⟩
    · have hl : (decide (x < y) || (decide (y = x) && (decide (x = 1) || decide (x = 2)))) = true := by simp [hyx, h0]
      have hr : (decide (x < y) || (decide (y = x) && decide (x = 3))) = false := by simp [hyx, h0]
      rw [if_pos hl] at eL
      rw [if_neg (by rw [hr]; decide)] at eR
      have d1 : ((x : Int) == 1) = false := beq_eq_false_iff_ne.2 (by omega)
      have d2 : ((x : Int) == 2) = true := beq_iff_eq.2 (by omega)
      have d3 : ((x : Int) == 3) = false := beq_eq_false_iff_ne.2 (by omega)
      have dn : y ≤ x := by omega
      have H0 := Lib.hid h0
      clear hl hr h0 hyx hxy
      rw [eL, eCore, eR, eWrap]
      generalize sg4 x = sx at *
      generalize sg4 y = sy at *
      clear eL eR eCore eWrap
      go_wp2_with fail
      refine (HW.out _ B8.out).mono ?_; rintro e w9 ⟨rfl, hb9⟩
      go_wp2_with fail
      go_ret
      exact ⟨ret1 rfl, B8.out.trans (hb9.mono B8.out.size)⟩
    · have hl : (decide (x < y) || (decide (y = x) && (decide (x = 1) || decide (x = 2)))) = false := by simp [hyx, h0]
      have hr : (decide (x < y) || (decide (y = x) && decide (x = 3))) = true := by simp [hyx, h0]
      rw [if_neg (by rw [hl]; decide)] at eL
      rw [if_pos hr] at eR
      have d1 : ((x : Int) == 1) = false := beq_eq_false_iff_ne.2 (by omega)
      have d2 : ((x : Int) == 2) = false := beq_eq_false_iff_ne.2 (by omega)
      have d3 : ((x : Int) == 3) = true := beq_iff_eq.2 (by omega)
      have dn : y ≤ x := by omega
      have H0 := Lib.hid h0
      clear hl hr h0 hyx hxy
      rw [eL, eWrap, eR, eCore]
      generalize sg4 x = sx at *
      generalize sg4 y = sy at *
      clear eL eR eCore eWrap
      go_wp2_with fail
      refine (HW.out _ B8.out).mono ?_; rintro e w9 ⟨rfl, hb9⟩
      go_wp2_with fail
      go_ret
      exact ⟨ret1 rfl, B8.out.trans (hb9.mono B8.out.size)⟩
  · have dc : decide ((x : Int) < (y : Int)) = false := decide_eq_false (by omega)
    have de : ((y : Int) == (x : Int)) = false := beq_eq_false_iff_ne.2 (by omega)
    rw [if_neg (by simp [hxy, hyx])] at eL eR
    have dn : y ≤ x := by omega
    clear hxy hyx
    rw [eL, eWrap, eR, eWrap]
    generalize sg4 x = sx at *
    generalize sg4 y = sy at *
    clear eL eR eCore eWrap
    go_wp2_with fail
    refine (HW.out _ B8.out).mono ?_; rintro e w9 ⟨rfl, hb9⟩
    go_wp2_with fail
    go_ret
    exact ⟨ret1 rfl, B8.out.trans (hb9.mono B8.out.size)⟩
end Go.Proofs.YtbgjdfghcnblcaaGreatDoor.PrintC
