/-
  The walk of RefsOf.
-/
import Derived.Test.YtccigjelbnjcoaaGreatDoorPUnionRefsJ
import Derived.Test.YtccigjelbnjcoaaGreatDoorPUnionTreeK7
import Derived.Test.YtccigjelbnjcoaaGreatDoorPUnionTreeP8
import Derived.Test.YtccigjelbnjcoaaGreatDoorPUnionTreeP0
import Derived.Test.YtccigjelbnjcoaaGreatDoorPUnionAddrF
import Derived.Test.YtccigjelbnjcoaaGreatDoorPUnionTreeP3
import Derived.OwnWalk
import Derived.Deep.MidRow
import Derived.Deep.RegionHeld3
namespace Go.Proofs.YtccigjelbnjcoaaGreatDoor.RefsC
set_option linter.unusedVariables false
open Go.RowKit Go.Proofs.YtccigjelbnjcoaaGreatDoor.NumC Go.Proofs.YtccigjelbnjcoaaGreatDoor.LexC Go.Proofs.YtccigjelbnjcoaaGreatDoor.TreeC
theorem later {W w : World} {b : Nat} {f : Fld} {A : Option Addr} {n c : Nat} (L : NLoc W b f A n c) (h : Below W.heap.size W w) : NLoc w b f A n c := L.kept (Kept.of h) (Nat.ne_of_lt L.lt)
theorem ten_of {w : World} {b : Nat} {f : Fld} {A : Option Addr} {n c : Nat} (L : NLoc w b f A n c) : w.cell? ⟨b, 0, none⟩ = some (.int .i64 f.k) ∧ w.cell? ⟨b, 1, none⟩ = some (.int .i64 f.vk) ∧ w.cell? ⟨b, 2, none⟩ = some (.int .i64 f.vn) ∧ w.cell? ⟨b, 3, none⟩ = some (.string f.vs) ∧ w.cell? ⟨b, 4, none⟩ = some (.int .i64 f.r1) ∧ w.cell? ⟨b, 5, none⟩ = some (.int .i64 f.r2) ∧ w.cell? ⟨b, 6, none⟩ = some (.int .i64 f.r3) ∧ w.cell? ⟨b, 7, none⟩ = some (.int .i64 f.r4) ∧ w.cell? ⟨b, 8, none⟩ = some (.string f.op) ∧ w.cell? ⟨b, 9, none⟩ = some (.slice A n c) := by
  obtain ⟨d0, d1, d2, d3, d4, d5, d6, d7, d8, d9, -⟩ := L.cells
  exact ⟨d0, d1, d2, d3, d4, d5, d6, d7, d8, d9⟩
end Go.Proofs.YtccigjelbnjcoaaGreatDoor.RefsC
namespace Go.Proofs.YtccigjelbnjcoaaGreatDoor.RefsC
set_option linter.unusedVariables false
open Go.RowKit Go.Proofs.YtccigjelbnjcoaaGreatDoor.NumC Go.Proofs.YtccigjelbnjcoaaGreatDoor.LexC Go.Proofs.YtccigjelbnjcoaaGreatDoor.TreeC
def joinN (a b : Nd) : Nd := ⟨⟨5, 0, 0, nob, 0, 0, 0, 0, { data := #[43] }⟩, .cons a.f a.kids (.cons b.f b.kids .nil)⟩
theorem join_mem (a b : Nd) (x : Rc) : x ∈ namesF (joinN a b).one ↔ x ∈ namesF a.one ∨ x ∈ namesF b.one := by
  show x ∈ [] ++ ((rcOf a.f ++ (namesF a.kids ++ (rcOf b.f ++ (namesF b.kids ++ [])))) ++ []) ↔ x ∈ rcOf a.f ++ (namesF a.kids ++ []) ∨ x ∈ rcOf b.f ++ (namesF b.kids ++ [])
  simp only [List.mem_append, List.append_nil, List.nil_append, or_assoc]
theorem join_good {a b : Nd} (ha : goodT fitsB a = true) (hb : goodT fitsB b = true) (sa : a.size ≤ 300) (sb : b.size ≤ 300) (da : a.deep ≤ 15) (db : b.deep ≤ 15) : goodT fitsB (joinN a b) = true := by
  have h1 := good_all ha
  have h2 := good_all hb
  unfold goodT
  have hs : (joinN a b).size ≤ 2000 := by
    show 1 + (1 + a.kids.size + (1 + b.kids.size + 0)) ≤ 2000
    unfold Nd.size at sa sb
    omega
  have hd : (joinN a b).deep ≤ 16 := by
    show 1 + max (1 + a.kids.deep) (max (1 + b.kids.deep) 0) ≤ 16
    unfold Nd.deep at da db
    omega
  rw [decide_eq_true hs, decide_eq_true hd]
  have e1 : (a.kids.all fitsB && fitsB a.f a.kids.len) = true := by
    have : (a.kids.all fitsB && fitsB a.f a.kids.len && Fo.all fitsB .nil) = true := h1
    rw [Bool.and_eq_true] at this
    exact this.1
  have e2 : (b.kids.all fitsB && fitsB b.f b.kids.len) = true := by
    have : (b.kids.all fitsB && fitsB b.f b.kids.len && Fo.all fitsB .nil) = true := h2
    rw [Bool.and_eq_true] at this
    exact this.1
  show (true && true && ((a.kids.all fitsB && fitsB a.f a.kids.len && (b.kids.all fitsB && fitsB b.f b.kids.len && true)) && fitsB ⟨5, 0, 0, nob, 0, 0, 0, 0, { data := #[43] }⟩ 2)) = true
  rw [e1, e2]
  kernel_rfl
theorem ofL_good {a : Nd} (h : goodT fitsB a = true) (x : Rc) : x ∈ ofL a ↔ x ∈ namesF a.one := by unfold ofL; rw [if_pos h]; exact refs_mem a x
theorem join_of {a b : Nd} (h : goodT fitsB (joinN a b) = true) (ha : goodT fitsB a = true) (hb : goodT fitsB b = true) : ofL (joinN a b) = putsL (putsL [] (ofL a)) (ofL b) :=
  srt_ext (ofL_srt _) (puts_srt _ (puts_srt _ srt_nil)) (fun x => by rw [ofL_good h, join_mem, puts_mem, puts_mem, ofL_good ha, ofL_good hb]; simp)
theorem join_cells {a b : Nd} (h : goodT fitsB (joinN a b) = true) (ha : goodT fitsB a = true) (hb : goodT fitsB b = true) : cellsL (ofL (joinN a b)) ≤ cellsL (ofL a) + cellsL (ofL b) ∧ cellsL (ofL a) ≤ cellsL (ofL (joinN a b)) ∧ cellsL (ofL b) ≤ cellsL (ofL (joinN a b)) := by
  have hm : ∀ x, x ∈ ofL (joinN a b) ↔ x ∈ ofL a ∨ x ∈ ofL b := fun x => by rw [ofL_good h, join_mem, ofL_good ha, ofL_good hb]
  refine ⟨cells_or (fun r c hh => ?_), cells_mono (fun r c hh => ?_), cells_mono (fun r c hh => ?_)⟩
  · obtain ⟨x, hx, hp⟩ := (hits_iff _ r c).1 hh
    rcases (hm x).1 hx with h1 | h1
    · exact Or.inl ((hits_iff _ r c).2 ⟨x, h1, hp⟩)
    · exact Or.inr ((hits_iff _ r c).2 ⟨x, h1, hp⟩)
  · obtain ⟨x, hx, hp⟩ := (hits_iff _ r c).1 hh
    exact (hits_iff _ r c).2 ⟨x, (hm x).2 (Or.inl hx), hp⟩
  · obtain ⟨x, hx, hp⟩ := (hits_iff _ r c).1 hh
    exact (hits_iff _ r c).2 ⟨x, (hm x).2 (Or.inr hx), hp⟩
theorem puts_len (m : List Rc) : ∀ l : List Rc, (putsL l m).length ≤ l.length + m.length := by
  induction m with
  | nil => intro l; exact Nat.le_refl _
  | cons z m ih => intro l; have h1 := ih (putL l z); have h2 := put_len_le l z; show (putsL (putL l z) m).length ≤ _; simp only [List.length_cons]; omega
def fiveN : Nd := ⟨⟨1, 2, 5, nob, 0, 0, 0, 0, nob⟩, .nil⟩
theorem five_of : ofL fiveN = [] := by kernel_rfl
theorem two_rows {W : World} {g : Nat} {P : Nat → Prop} {a b : Nd} {A C : Option Addr} {c d : Nat} (hb : W.heap[g]? = some (.cells #[.int .i64 a.f.k, .int .i64 a.f.vk, .int .i64 a.f.vn, .string a.f.vs, .int .i64 a.f.r1, .int .i64 a.f.r2, .int .i64 a.f.r3, .int .i64 a.f.r4, .string a.f.op, .slice A a.kids.len c, .int .i64 b.f.k, .int .i64 b.f.vk, .int .i64 b.f.vn, .string b.f.vs, .int .i64 b.f.r1, .int .i64 b.f.r2, .int .i64 b.f.r3, .int .i64 b.f.r4, .string b.f.op, .slice C b.kids.len d] 30 (0, 0))) (hg : P g) (hA : KidsAt W P a.kids A) (hC : KidsAt W P b.kids C) : KidsAt W P (joinN a b).kids (some ⟨g, 0, none⟩) := by
  have hh : ∀ (i : Nat) (v : Value), (#[.int .i64 a.f.k, .int .i64 a.f.vk, .int .i64 a.f.vn, .string a.f.vs, .int .i64 a.f.r1, .int .i64 a.f.r2, .int .i64 a.f.r3, .int .i64 a.f.r4, .string a.f.op, .slice A a.kids.len c, .int .i64 b.f.k, .int .i64 b.f.vk, .int .i64 b.f.vn, .string b.f.vs, .int .i64 b.f.r1, .int .i64 b.f.r2, .int .i64 b.f.r3, .int .i64 b.f.r4, .string b.f.op, .slice C b.kids.len d] : Array Value)[i]? = some v → W.cell? ⟨g, i, none⟩ = some v := fun i v h => by
    unfold World.cell?; simp only [hb]; exact h
  exact Or.inr ⟨g, 0, rfl, ⟨hg, hh 0 _ rfl, hh 1 _ rfl, hh 2 _ rfl, hh 3 _ rfl, hh 4 _ rfl, hh 5 _ rfl, hh 6 _ rfl, hh 7 _ rfl, hh 8 _ rfl⟩, ⟨A, c, hh 9 _ rfl, hA⟩, ⟨hg, hh 10 _ rfl, hh 11 _ rfl, hh 12 _ rfl, hh 13 _ rfl, hh 14 _ rfl, hh 15 _ rfl, hh 16 _ rfl, hh 17 _ rfl, hh 18 _ rfl⟩, ⟨C, d, hh 19 _ rfl, hC⟩, trivial⟩
set_option maxRecDepth 100000 in
set_option maxHeartbeats 8000000 in
theorem refsUnion (a b : Nd) (A C : Option Addr) (c d : Nat) (w : World) (hA : KidsAt w (fun g => g < w.heap.size) a.kids A) (hC : KidsAt w (fun g => g < w.heap.size) b.kids C) (hl : LexLib w) (hg : ErrT w) :
    Calls Tryz.prog 6 #[.agg #[.int .i64 a.f.k, .int .i64 a.f.vk, .int .i64 a.f.vn, .string a.f.vs, .int .i64 a.f.r1, .int .i64 a.f.r2, .int .i64 a.f.r3, .int .i64 a.f.r4, .string a.f.op, .slice A a.kids.len c], .agg #[.int .i64 b.f.k, .int .i64 b.f.vk, .int .i64 b.f.vn, .string b.f.vs, .int .i64 b.f.r1, .int .i64 b.f.r2, .int .i64 b.f.r3, .int .i64 b.f.r4, .string b.f.op, .slice C b.kids.len d]] w fun e w' => e = .returned (.bool true) ∧ Below w.heap.size w w' := by
  have BW0 : Below w.heap.size w ((w.alloc (.cells #[.int .i64 a.f.k, .int .i64 a.f.vk, .int .i64 a.f.vn, .string a.f.vs, .int .i64 a.f.r1, .int .i64 a.f.r2, .int .i64 a.f.r3, .int .i64 a.f.r4, .string a.f.op, .slice A a.kids.len c] 30)).alloc (.cells #[.int .i64 b.f.k, .int .i64 b.f.vk, .int .i64 b.f.vn, .string b.f.vs, .int .i64 b.f.r1, .int .i64 b.f.r2, .int .i64 b.f.r3, .int .i64 b.f.r4, .string b.f.op, .slice C b.kids.len d] 30)) := ((Below.refl _ _).alloc (Nat.le_refl _) _).alloc (by simp) _
  have L00 : NLoc (w.alloc (.cells #[.int .i64 a.f.k, .int .i64 a.f.vk, .int .i64 a.f.vn, .string a.f.vs, .int .i64 a.f.r1, .int .i64 a.f.r2, .int .i64 a.f.r3, .int .i64 a.f.r4, .string a.f.op, .slice A a.kids.len c] 30)) w.heap.size a.f A a.kids.len c := ⟨heap_alloc_new _ _⟩
  have LA0 : NLoc ((w.alloc (.cells #[.int .i64 a.f.k, .int .i64 a.f.vk, .int .i64 a.f.vn, .string a.f.vs, .int .i64 a.f.r1, .int .i64 a.f.r2, .int .i64 a.f.r3, .int .i64 a.f.r4, .string a.f.op, .slice A a.kids.len c] 30)).alloc (.cells #[.int .i64 b.f.k, .int .i64 b.f.vk, .int .i64 b.f.vn, .string b.f.vs, .int .i64 b.f.r1, .int .i64 b.f.r2, .int .i64 b.f.r3, .int .i64 b.f.r4, .string b.f.op, .slice C b.kids.len d] 30)) w.heap.size a.f A a.kids.len c := L00.kept (Kept.alloc (Kept.refl ((w.alloc (.cells #[.int .i64 a.f.k, .int .i64 a.f.vk, .int .i64 a.f.vn, .string a.f.vs, .int .i64 a.f.r1, .int .i64 a.f.r2, .int .i64 a.f.r3, .int .i64 a.f.r4, .string a.f.op, .slice A a.kids.len c] 30)).heap.size) _) _) (Nat.ne_of_lt L00.lt)
  have LB0 : NLoc ((w.alloc (.cells #[.int .i64 a.f.k, .int .i64 a.f.vk, .int .i64 a.f.vn, .string a.f.vs, .int .i64 a.f.r1, .int .i64 a.f.r2, .int .i64 a.f.r3, .int .i64 a.f.r4, .string a.f.op, .slice A a.kids.len c] 30)).alloc (.cells #[.int .i64 b.f.k, .int .i64 b.f.vk, .int .i64 b.f.vn, .string b.f.vs, .int .i64 b.f.r1, .int .i64 b.f.r2, .int .i64 b.f.r3, .int .i64 b.f.r4, .string b.f.op, .slice C b.kids.len d] 30)) (w.heap.size + 1) b.f C b.kids.len d := ⟨by have := heap_alloc_new (w.alloc (.cells #[.int .i64 a.f.k, .int .i64 a.f.vk, .int .i64 a.f.vn, .string a.f.vs, .int .i64 a.f.r1, .int .i64 a.f.r2, .int .i64 a.f.r3, .int .i64 a.f.r4, .string a.f.op, .slice A a.kids.len c] 30)) (.cells #[.int .i64 b.f.k, .int .i64 b.f.vk, .int .i64 b.f.vn, .string b.f.vs, .int .i64 b.f.r1, .int .i64 b.f.r2, .int .i64 b.f.r3, .int .i64 b.f.r4, .string b.f.op, .slice C b.kids.len d] 30); rwa [World.size_alloc] at this⟩
  have HW := Lib.hid (fun (W : World) (hb : Below w.heap.size w W) => cwakes8 W (hl.below hb) (hg.below hb))
  have HL := Lib.hid hl
  have HA := Lib.hid hA
  have HC := Lib.hid hC
  clear hl hg hA hC L00
  obtain ⟨d0, d1, d2, d3, d4, d5, d6, d7, d8, d9, -⟩ := LA0.cells
  obtain ⟨x0, x1, x2, x3, x4, x5, x6, x7, x8, x9, -⟩ := LB0.cells
  go_enter Tryz.func6, Tryz.ntmps6
  go_wp2_with fail
  generalize ((w.alloc (.cells #[.int .i64 a.f.k, .int .i64 a.f.vk, .int .i64 a.f.vn, .string a.f.vs, .int .i64 a.f.r1, .int .i64 a.f.r2, .int .i64 a.f.r3, .int .i64 a.f.r4, .string a.f.op, .slice A a.kids.len c] 30)).alloc (.cells #[.int .i64 b.f.k, .int .i64 b.f.vk, .int .i64 b.f.vn, .string b.f.vs, .int .i64 b.f.r1, .int .i64 b.f.r2, .int .i64 b.f.r3, .int .i64 b.f.r4, .string b.f.op, .slice C b.kids.len d] 30)) = W0 at *
  refine (klarge a A c W0 (below_row HA.out BW0)).mono ?_; rintro e w1 ⟨la, rfl, hb1, hla⟩
  have LA1 := later LA0 hb1
  have LB1 := later LB0 hb1
  have BW1 := BW0.trans (hb1.mono BW0.size)
  clear d0 d1 d2 d3 d4 d5 d6 d7 d8 d9 x0 x1 x2 x3 x4 x5 x6 x7 x8 x9 LA0 LB0 BW0 hb1
  obtain ⟨d0, d1, d2, d3, d4, d5, d6, d7, d8, d9, -⟩ := LA1.cells
  obtain ⟨x0, x1, x2, x3, x4, x5, x6, x7, x8, x9, -⟩ := LB1.cells
  cases la
  case true =>
    go_wp2_with fail
    refine (HW.out _ BW1).mono ?_; rintro e w9 ⟨rfl, hb9⟩
    go_wp2_with fail
    go_ret
    exact ⟨ret1 rfl, BW1.trans (hb9.mono BW1.size)⟩
  case false =>
  obtain ⟨sa, ha⟩ := hla rfl
  have HSA := Lib.hid ha
  clear hla ha
  go_wp2_with fail
  refine (klarge b C d w1 (below_row HC.out BW1)).mono ?_; rintro e w2 ⟨lb, rfl, hb2, hlb⟩
  have LA2 := later LA1 hb2
  have LB2 := later LB1 hb2
  have BW2 := BW1.trans (hb2.mono BW1.size)
  clear d0 d1 d2 d3 d4 d5 d6 d7 d8 d9 x0 x1 x2 x3 x4 x5 x6 x7 x8 x9 LA1 LB1 BW1 hb2
  obtain ⟨d0, d1, d2, d3, d4, d5, d6, d7, d8, d9, -⟩ := LA2.cells
  obtain ⟨x0, x1, x2, x3, x4, x5, x6, x7, x8, x9, -⟩ := LB2.cells
  cases lb
  case true =>
    go_wp2_with fail
    refine (HW.out _ BW2).mono ?_; rintro e w9 ⟨rfl, hb9⟩
    go_wp2_with fail
    go_ret
    exact ⟨ret1 rfl, BW2.trans (hb9.mono BW2.size)⟩
  case false =>
  obtain ⟨sb, hb⟩ := hlb rfl
  have HSB := Lib.hid hb
  clear hlb hb
  go_wp2_with fail
  refine (rGood a A c w2 (by omega) HSA.out (below_row HA.out BW2)).mono ?_; rintro e w3 ⟨rfl, hb3⟩
  have LA3 := later LA2 hb3
  have LB3 := later LB2 hb3
  have BW3 := BW2.trans (hb3.mono BW2.size)
  clear d0 d1 d2 d3 d4 d5 d6 d7 d8 d9 x0 x1 x2 x3 x4 x5 x6 x7 x8 x9 LA2 LB2 BW2 hb3
  obtain ⟨d0, d1, d2, d3, d4, d5, d6, d7, d8, d9, -⟩ := LA3.cells
  obtain ⟨x0, x1, x2, x3, x4, x5, x6, x7, x8, x9, -⟩ := LB3.cells
  cases hga : goodT fitsB a
  · clear hga
    go_wp2_with fail
    refine (HW.out _ BW3).mono ?_; rintro e w9 ⟨rfl, hb9⟩
    go_wp2_with fail
    go_ret
    exact ⟨ret1 rfl, BW3.trans (hb9.mono BW3.size)⟩
  have HGA := Lib.hid hga
  clear hga
  go_wp2_with fail
  refine (rGood b C d w3 (by omega) HSB.out (below_row HC.out BW3)).mono ?_; rintro e w4 ⟨rfl, hb4⟩
  have LA4 := later LA3 hb4
  have LB4 := later LB3 hb4
  have BW4 := BW3.trans (hb4.mono BW3.size)
  clear d0 d1 d2 d3 d4 d5 d6 d7 d8 d9 x0 x1 x2 x3 x4 x5 x6 x7 x8 x9 LA3 LB3 BW3 hb4
  obtain ⟨d0, d1, d2, d3, d4, d5, d6, d7, d8, d9, -⟩ := LA4.cells
  obtain ⟨x0, x1, x2, x3, x4, x5, x6, x7, x8, x9, -⟩ := LB4.cells
  cases hgb : goodT fitsB b
  · clear hgb
    go_wp2_with fail
    refine (HW.out _ BW4).mono ?_; rintro e w9 ⟨rfl, hb9⟩
    go_wp2_with fail
    go_ret
    exact ⟨ret1 rfl, BW4.trans (hb9.mono BW4.size)⟩
  have HGB := Lib.hid hgb
  clear hgb
  go_wp2_with fail
  refine (rDepth a A c w4 (below_row HA.out BW4)).mono ?_; rw [if_pos (by omega : a.size ≤ 2000)]; rintro e w5 ⟨rfl, hb5⟩
  have LA5 := later LA4 hb5
  have LB5 := later LB4 hb5
  have BW5 := BW4.trans (hb5.mono BW4.size)
  clear d0 d1 d2 d3 d4 d5 d6 d7 d8 d9 x0 x1 x2 x3 x4 x5 x6 x7 x8 x9 LA4 LB4 BW4 hb5
  obtain ⟨d0, d1, d2, d3, d4, d5, d6, d7, d8, d9, -⟩ := LA5.cells
  obtain ⟨x0, x1, x2, x3, x4, x5, x6, x7, x8, x9, -⟩ := LB5.cells
  by_cases da : a.deep ≤ 15
  case neg =>
    have t1 : (15 : Int) < (a.deep : Int) := by omega
    go_wp2_with fail
    refine (HW.out _ BW5).mono ?_; rintro e w9 ⟨rfl, hb9⟩
    go_wp2_with fail
    go_ret
    exact ⟨ret1 rfl, BW5.trans (hb9.mono BW5.size)⟩
  have t1 : ¬ (15 : Int) < (a.deep : Int) := by omega
  go_wp2_with fail
  refine (rDepth b C d w5 (below_row HC.out BW5)).mono ?_; rw [if_pos (by omega : b.size ≤ 2000)]; rintro e w6 ⟨rfl, hb6⟩
  have LA6 := later LA5 hb6
  have LB6 := later LB5 hb6
  have BW6 := BW5.trans (hb6.mono BW5.size)
  clear d0 d1 d2 d3 d4 d5 d6 d7 d8 d9 x0 x1 x2 x3 x4 x5 x6 x7 x8 x9 LA5 LB5 BW5 hb6
  obtain ⟨d0, d1, d2, d3, d4, d5, d6, d7, d8, d9, -⟩ := LA6.cells
  obtain ⟨x0, x1, x2, x3, x4, x5, x6, x7, x8, x9, -⟩ := LB6.cells
  by_cases db : b.deep ≤ 15
  case neg =>
    have t2 : (15 : Int) < (b.deep : Int) := by omega
    go_wp2_with fail
    refine (HW.out _ BW6).mono ?_; rintro e w9 ⟨rfl, hb9⟩
    go_wp2_with fail
    go_ret
    exact ⟨ret1 rfl, BW6.trans (hb9.mono BW6.size)⟩
  have t2 : ¬ (15 : Int) < (b.deep : Int) := by omega
  have HGJ := Lib.hid (join_good HGA.out HGB.out sa sb da db)
  go_wp2_with fail
  have b7 : Below w6.heap.size w6 (w6.alloc (.cells #[.int .i64 a.f.k, .int .i64 a.f.vk, .int .i64 a.f.vn, .string a.f.vs, .int .i64 a.f.r1, .int .i64 a.f.r2, .int .i64 a.f.r3, .int .i64 a.f.r4, .string a.f.op, .slice A a.kids.len c, .int .i64 b.f.k, .int .i64 b.f.vk, .int .i64 b.f.vn, .string b.f.vs, .int .i64 b.f.r1, .int .i64 b.f.r2, .int .i64 b.f.r3, .int .i64 b.f.r4, .string b.f.op, .slice C b.kids.len d] 30)) := (Below.refl _ _).alloc (Nat.le_refl _) _
  have hK7 := two_rows (c := c) (d := d) (W := w6.alloc (.cells #[.int .i64 a.f.k, .int .i64 a.f.vk, .int .i64 a.f.vn, .string a.f.vs, .int .i64 a.f.r1, .int .i64 a.f.r2, .int .i64 a.f.r3, .int .i64 a.f.r4, .string a.f.op, .slice A a.kids.len c, .int .i64 b.f.k, .int .i64 b.f.vk, .int .i64 b.f.vn, .string b.f.vs, .int .i64 b.f.r1, .int .i64 b.f.r2, .int .i64 b.f.r3, .int .i64 b.f.r4, .string b.f.op, .slice C b.kids.len d] 30)) (P := fun g => g < (w6.alloc (.cells #[.int .i64 a.f.k, .int .i64 a.f.vk, .int .i64 a.f.vn, .string a.f.vs, .int .i64 a.f.r1, .int .i64 a.f.r2, .int .i64 a.f.r3, .int .i64 a.f.r4, .string a.f.op, .slice A a.kids.len c, .int .i64 b.f.k, .int .i64 b.f.vk, .int .i64 b.f.vn, .string b.f.vs, .int .i64 b.f.r1, .int .i64 b.f.r2, .int .i64 b.f.r3, .int .i64 b.f.r4, .string b.f.op, .slice C b.kids.len d] 30)).heap.size) (heap_alloc_new _ _) (by simp) (below_row HA.out (BW6.trans (b7.mono BW6.size))) (below_row HC.out (BW6.trans (b7.mono BW6.size)))
  have hJ := cOf (joinN a b) (some ⟨w6.heap.size, 0, none⟩) 2 (w6.alloc (.cells #[.int .i64 a.f.k, .int .i64 a.f.vk, .int .i64 a.f.vn, .string a.f.vs, .int .i64 a.f.r1, .int .i64 a.f.r2, .int .i64 a.f.r3, .int .i64 a.f.r4, .string a.f.op, .slice A a.kids.len c, .int .i64 b.f.k, .int .i64 b.f.vk, .int .i64 b.f.vn, .string b.f.vs, .int .i64 b.f.r1, .int .i64 b.f.r2, .int .i64 b.f.r3, .int .i64 b.f.r4, .string b.f.op, .slice C b.kids.len d] 30)) (Nat.le_trans (good_size HGJ.out) (by decide)) ((HL.out.below BW6).below b7) hK7
  have LA7 := later LA6 b7
  have LB7 := later LB6 b7
  have BW7 := BW6.trans (b7.mono BW6.size)
  clear d0 d1 d2 d3 d4 d5 d6 d7 d8 d9 x0 x1 x2 x3 x4 x5 x6 x7 x8 x9 LA6 LB6 BW6 b7 hK7
  generalize (w6.alloc (.cells #[.int .i64 a.f.k, .int .i64 a.f.vk, .int .i64 a.f.vn, .string a.f.vs, .int .i64 a.f.r1, .int .i64 a.f.r2, .int .i64 a.f.r3, .int .i64 a.f.r4, .string a.f.op, .slice A a.kids.len c, .int .i64 b.f.k, .int .i64 b.f.vk, .int .i64 b.f.vn, .string b.f.vs, .int .i64 b.f.r1, .int .i64 b.f.r2, .int .i64 b.f.r3, .int .i64 b.f.r4, .string b.f.op, .slice C b.kids.len d] 30)) = w7 at *
  refine hJ.mono ?_
  clear hJ
  rintro e w8 ⟨v8, rfl, ho8, hb8⟩
  obtain ⟨AL, cl, rfl⟩ := ho8.form
  have LA8 := later LA7 hb8
  have LB8 := later LB7 hb8
  have BW8 := Lib.hid (below_drew (BW7.trans (hb8.mono BW7.size)))
  have HRL := Lib.hid (show RAt w8.drew w8.drew.heap.size (ofL (joinN a b)) AL from ho8.rat.2)
  have LA9 : NLoc w8.drew w.heap.size a.f A a.kids.len c := ⟨LA8.at_⟩
  have LB9 : NLoc w8.drew (w.heap.size + 1) b.f C b.kids.len d := ⟨LB8.at_⟩
  have T0 := And.intro (ten_of LA9) (ten_of LB9)
  clear LA7 LB7 BW7 LA8 LB8 ho8 hb8
  go_wp2_with fail
  go_region_held3 (fun w' => (w'.cell? ⟨w.heap.size, 0, none⟩ = some (.int .i64 a.f.k) ∧ w'.cell? ⟨w.heap.size, 1, none⟩ = some (.int .i64 a.f.vk) ∧ w'.cell? ⟨w.heap.size, 2, none⟩ = some (.int .i64 a.f.vn) ∧ w'.cell? ⟨w.heap.size, 3, none⟩ = some (.string a.f.vs) ∧ w'.cell? ⟨w.heap.size, 4, none⟩ = some (.int .i64 a.f.r1) ∧ w'.cell? ⟨w.heap.size, 5, none⟩ = some (.int .i64 a.f.r2) ∧ w'.cell? ⟨w.heap.size, 6, none⟩ = some (.int .i64 a.f.r3) ∧ w'.cell? ⟨w.heap.size, 7, none⟩ = some (.int .i64 a.f.r4) ∧ w'.cell? ⟨w.heap.size, 8, none⟩ = some (.string a.f.op) ∧ w'.cell? ⟨w.heap.size, 9, none⟩ = some (.slice A a.kids.len c)) ∧ (w'.cell? ⟨w.heap.size + 1, 0, none⟩ = some (.int .i64 b.f.k) ∧ w'.cell? ⟨w.heap.size + 1, 1, none⟩ = some (.int .i64 b.f.vk) ∧ w'.cell? ⟨w.heap.size + 1, 2, none⟩ = some (.int .i64 b.f.vn) ∧ w'.cell? ⟨w.heap.size + 1, 3, none⟩ = some (.string b.f.vs) ∧ w'.cell? ⟨w.heap.size + 1, 4, none⟩ = some (.int .i64 b.f.r1) ∧ w'.cell? ⟨w.heap.size + 1, 5, none⟩ = some (.int .i64 b.f.r2) ∧ w'.cell? ⟨w.heap.size + 1, 6, none⟩ = some (.int .i64 b.f.r3) ∧ w'.cell? ⟨w.heap.size + 1, 7, none⟩ = some (.int .i64 b.f.r4) ∧ w'.cell? ⟨w.heap.size + 1, 8, none⟩ = some (.string b.f.op) ∧ w'.cell? ⟨w.heap.size + 1, 9, none⟩ = some (.slice C b.kids.len d)))
    (first | exact T0 | exact T1 | exact T2)
    (first
      | (go_at_call 10
         refine (cOf a A c _ (by omega) (HL.out.below BW8.out) (below_row HA.out BW8.out)).mono ?_; rintro e w9 ⟨v9, rfl, ho9, hb9⟩
         have T1 := And.intro (ten_of (later LA9 hb9)) (ten_of (later LB9 hb9))
         have BW9 := BW8.out.trans (hb9.mono BW8.out.size)
         obtain ⟨AX, cx, rfl⟩ := ho9.form
         have hr9 := ho9.rat.2)
      | (go_at_call 10
         refine (cOf b C d _ (by omega) (HL.out.below BW9) (below_row HC.out BW9)).mono ?_; rintro e w10 ⟨v10, rfl, ho10, hb10⟩
         have hb11 := hb9.trans (hb10.mono hb9.size)
         have T2 := And.intro (ten_of (later LA9 hb11)) (ten_of (later LB9 hb11))
         have BW10 := BW9.trans (hb10.mono BW9.size)
         obtain ⟨AY, cy, rfl⟩ := ho10.form
         have hr10 := ho10.rat.2))
  have HL10 := Lib.hid ((HRL.out.below hb11).mono hb11.size)
  have HX10 := Lib.hid ((hr9.below hb10).mono hb10.size)
  have HY10 := Lib.hid hr10
  have HB10 := Lib.hid BW10
  have lx := ofL_len a
  have ly := ofL_len b
  have ll := ofL_len (joinN a b)
  clear T0 T1 T2 LA9 LB9 ho9 hb9 hb10 hb11 hr9 ho10 hr10 BW8 BW9 BW10 HRL
  have HSL := Lib.hid (ofL_srt (joinN a b))
  have HJO := Lib.hid (join_of HGJ.out HGA.out HGB.out)
  have HJC := Lib.hid (join_cells HGJ.out HGA.out HGB.out)
  generalize ofL (joinN a b) = l at *
  generalize ofL a = x at *
  generalize ofL b = y at *
  go_wp2_with fail
  go_loopw [8, 9] (fun vv iv wr => ∃ i : Nat, i ≤ x.length ∧ iv = .int .i64 i ∧ Hid (OS wr w10.heap.size vv (putsL [] (x.take i)) ∧ Below w10.heap.size w10 wr)) (fun _ iv _ => x.length - (intOf iv).toNat)
  case atStart => exact ⟨0, Nat.zero_le _, rfl, Lib.hid ⟨OS.nil _ _, Below.refl _ _⟩⟩
  case round =>
    obtain ⟨i, hi, rfl, HR⟩ := hrel
    obtain ⟨ho, hb⟩ := HR.out
    have hpl := puts_len (x.take i) []
    obtain ⟨mA, mc, rfl⟩ := ho.form
    by_cases hlt : i < x.length
    · have hd1 : (i : Int) < (x.length : Int) := by omega
      obtain ⟨z, hz⟩ := nth_some x i hlt
      have HZ : Hid (putsL [] (x.take (i + 1)) = putL (putsL [] (x.take i)) z) := Lib.hid (by rw [List.take_add_one, hz]; unfold putsL; rw [List.foldl_append]; rfl)
      obtain ⟨g0, o, rfl, hg0, c0, c1, c2, c3⟩ := (HX10.out.below hb).nth i z hz
      have hcall := rPut w10.heap.size (.slice mA (putsL [] (x.take i)).length mc) (putsL [] (x.take i)) z wr (by simp only [List.length_nil, List.length_take] at hpl; omega) ho hb.size
      have HB := Lib.hid hb
      clear ho hb hz
      go_wp2_with fail
      refine hcall.mono ?_
      rintro e w11 ⟨v11, rfl, ho11, hb11, -⟩
      have HN := Lib.hid (show OS w11 w10.heap.size v11 (putsL [] (x.take (i + 1))) ∧ Below w10.heap.size w10 w11 from ⟨by rw [HZ.out]; exact ho11, HB.out.trans (hb11.mono HB.out.size)⟩)
      clear ho11 hb11 hcall HB HZ c0 c1 c2 c3
      go_wp2_with fail
      go_roundw
      case rel => exact ⟨i + 1, by omega, by go_num, HN⟩
      case measure => simp [intOf]; omega
    · have hd1 : ¬ (i : Int) < (x.length : Int) := by omega
      obtain rfl : i = x.length := by omega
      rw [List.take_length] at *
      have HR1 := Lib.hid (And.intro ho hb)
      clear ho hb HR
      generalize hm1 : putsL [] x = m1 at *
      have HM1 := Lib.hid hm1
      clear hm1
      have hm1l : m1.length ≤ 2000 := by simp only [List.length_nil] at hpl; omega
      go_wp2_with fail
      go_loopw [8, 10] (fun vv iv w2 => ∃ i : Nat, i ≤ y.length ∧ iv = .int .i64 i ∧ Hid (OS w2 w10.heap.size vv (putsL m1 (y.take i)) ∧ Below w10.heap.size w10 w2)) (fun _ iv _ => y.length - (intOf iv).toNat)
      case atStart => exact ⟨0, Nat.zero_le _, rfl, Lib.hid ⟨HR1.out.1, HR1.out.2⟩⟩
      case round =>
        clear HR1
        obtain ⟨i, hi, rfl, HR⟩ := hrel
        obtain ⟨ho, hb⟩ := HR.out
        have hpl2 := puts_len (y.take i) m1
        obtain ⟨nA, nc, rfl⟩ := ho.form
        by_cases hlt2 : i < y.length
        · have hd2 : (i : Int) < (y.length : Int) := by omega
          obtain ⟨z, hz⟩ := nth_some y i hlt2
          have HZ : Hid (putsL m1 (y.take (i + 1)) = putL (putsL m1 (y.take i)) z) := Lib.hid (by rw [List.take_add_one, hz]; unfold putsL; rw [List.foldl_append]; rfl)
          obtain ⟨g0, o, rfl, hg0, c0, c1, c2, c3⟩ := (HY10.out.below hb).nth i z hz
          have hcall := rPut w10.heap.size (.slice nA (putsL m1 (y.take i)).length nc) (putsL m1 (y.take i)) z wr (by simp only [List.length_take] at hpl2; omega) ho hb.size
          have HB := Lib.hid hb
          clear ho hb hz
          go_wp2_with fail
          refine hcall.mono ?_
          rintro e w11 ⟨v11, rfl, ho11, hb11, -⟩
          have HN := Lib.hid (show OS w11 w10.heap.size v11 (putsL m1 (y.take (i + 1))) ∧ Below w10.heap.size w10 w11 from ⟨by rw [HZ.out]; exact ho11, HB.out.trans (hb11.mono HB.out.size)⟩)
          clear ho11 hb11 hcall HB HZ c0 c1 c2 c3
          go_wp2_with fail
          go_roundw
          case rel => exact ⟨i + 1, by omega, by go_num, HN⟩
          case measure => simp [intOf]; omega
        · have hd2 : ¬ (i : Int) < (y.length : Int) := by omega
          obtain rfl : i = y.length := by omega
          rw [List.take_length] at *
          have hlw : putsL m1 y = l := HJO.out.symm
          rw [hlw] at ho ⊢
          have HW2 := Lib.hid ho.rat.2
          have HB2 := Lib.hid hb
          clear ho hb HR hlw
          go_wp2_with fail
          generalize wr = wz at *
          go_loopw [11] (fun iv w3 => ∃ j : Nat, j ≤ l.length ∧ iv = .int .i64 ((j : Int) + 1) ∧ Hid (Below wz.heap.size wz w3)) (fun iv _ => l.length + 1 - (intOf iv).toNat)
          case atStart => exact ⟨0, Nat.zero_le _, rfl, Lib.hid (Below.refl _ _)⟩
          case round =>
            obtain ⟨j, hj, rfl, HR3⟩ := hrel
            by_cases hlt3 : j + 1 < l.length
            · have hd3 : (j : Int) + 1 < (l.length : Int) := by omega
              have hd4 : (j : Int) < (l.length : Int) := by omega
              obtain ⟨z1, hz1⟩ := nth_some l j (by omega)
              obtain ⟨z2, hz2⟩ := nth_some l (j + 1) hlt3
              have hb3 : Below w10.heap.size w10 wr := HB2.out.trans (HR3.out.mono HB2.out.size)
              obtain ⟨g0, o, rfl, hg0, c0, c1, c2, c3⟩ := (HL10.out.below hb3).nth j z1 hz1
              obtain ⟨g9, o9, e9, -, y0, y1, y2, y3⟩ := (HL10.out.below hb3).nth (j + 1) z2 hz2
              obtain ⟨e91, e92⟩ : g9 = g0 ∧ o9 = o := by injection e9 with e9; injection e9 with e1 e2; exact ⟨e1.symm, e2.symm⟩
              subst e91 e92
              have HAH : Hid (aheadB z1 z2 = true) := Lib.hid (by
                have := List.pairwise_iff_getElem.1 HSL.out j (j + 1) (by omega) hlt3 (by omega)
                rw [List.getElem?_eq_getElem (by omega)] at hz1
                rw [List.getElem?_eq_getElem hlt3] at hz2
                rwa [Option.some.inj hz1, Option.some.inj hz2] at this)
              have htn : ((j : Int) + 1).toNat = j + 1 := by omega
              have hw1 : IntKind.i64.wrap (j : Int) = (j : Int) := by rw [IntKind.wrap_i64]; omega
              have h01 : (0 : Int) ≤ (j : Int) + 1 := by omega
              clear e9 hz1 hz2 hb3
              go_wp2_with fail
              refine region_tail 9 (by kernel_rfl) (by kernel_rfl) ?_
              simp only [List.take_succ_cons, List.take_zero, List.drop_succ_cons, List.drop_zero]
              replace c0 : wr.drew.cell? ⟨g9, o9 + j * 4, none⟩ = some (.int .i64 z1.a) := c0
              replace c1 : wr.drew.cell? ⟨g9, o9 + j * 4 + 1, none⟩ = some (.int .i64 z1.b) := c1
              replace c2 : wr.drew.cell? ⟨g9, o9 + j * 4 + 2, none⟩ = some (.int .i64 z1.c) := c2
              replace c3 : wr.drew.cell? ⟨g9, o9 + j * 4 + 3, none⟩ = some (.int .i64 z1.d) := c3
              replace y0 : wr.drew.cell? ⟨g9, o9 + (j + 1) * 4, none⟩ = some (.int .i64 z2.a) := y0
              replace y1 : wr.drew.cell? ⟨g9, o9 + (j + 1) * 4 + 1, none⟩ = some (.int .i64 z2.b) := y1
              replace y2 : wr.drew.cell? ⟨g9, o9 + (j + 1) * 4 + 2, none⟩ = some (.int .i64 z2.c) := y2
              replace y3 : wr.drew.cell? ⟨g9, o9 + (j + 1) * 4 + 3, none⟩ = some (.int .i64 z2.d) := y3
              replace HR3 : Hid (Below wz.heap.size wz wr.drew) := Lib.hid (below_drew HR3.out)
              generalize wr.drew = V at *
              iterate 9 still_step
              refine wpStill_nil ?_
              go_wp2_with fail
              refine (rAhead z1 z2 _).mono ?_; rw [HAH.out]; rintro e w12 ⟨rfl, hb12⟩
              have HR4 := Lib.hid (HR3.out.trans (hb12.mono HR3.out.size))
              clear hb12 c0 c1 c2 c3 y0 y1 y2 y3 hw1
              go_wp2_with fail
              go_roundw
              case rel => exact ⟨j + 1, by omega, by go_num, HR4⟩
              case measure => simp [intOf]; omega
            · have hd3 : ¬ (j : Int) + 1 < (l.length : Int) := by omega
              have B3 : Below w10.heap.size w10 wr := HB2.out.trans (HR3.out.mono HB2.out.size)
              have RL : ∀ u, Below wr.heap.size wr u → RAt u u.heap.size l AL := fun u hu => (HL10.out.below (B3.trans (hu.mono B3.size))).mono (Nat.le_trans B3.size hu.size)
              have RX : ∀ u, Below wr.heap.size wr u → RAt u u.heap.size x AX := fun u hu => (HX10.out.below (B3.trans (hu.mono B3.size))).mono (Nat.le_trans B3.size hu.size)
              have RY : ∀ u, Below wr.heap.size wr u → RAt u u.heap.size y AY := fun u hu => (HY10.out.below (B3.trans (hu.mono B3.size))).mono (Nat.le_trans B3.size hu.size)
              have RW : RAt wr wr.heap.size l nA := (HW2.out.below HR3.out).mono HR3.out.size
              have hk := kRects l l AL nA cl nc wr (by omega) (by omega) (RL wr (Below.refl _ _)) RW
              rw [show decide (l = l) = true from decide_eq_true rfl] at hk
              have BB : ∀ u, Below wr.heap.size wr u → Below w.heap.size w u := fun u hu => HB10.out.trans ((B3.trans (hu.mono B3.size)).mono HB10.out.size)
              have HF5 := Lib.hid (fun (u : World) (hu : Below wr.heap.size wr u) => cOf fiveN none 0 u (by decide) (HL.out.below (BB u hu)) (Or.inl rfl))
              have HCL := Lib.hid (fun (u : World) (hu : Below wr.heap.size wr u) => cCells l AL cl u (by omega) (RL u hu))
              have HCX := Lib.hid (fun (u : World) (hu : Below wr.heap.size wr u) => cCells x AX cx u (by omega) (RX u hu))
              have HCY := Lib.hid (fun (u : World) (hu : Below wr.heap.size wr u) => cCells y AY cy u (by omega) (RY u hu))
              have HWK := Lib.hid (fun (u : World) (hu : Below wr.heap.size wr u) => HW.out u (BB u hu))
              have HBB := Lib.hid BB
              obtain ⟨q1, q2, q3⟩ := HJC.out
              have q4 := cells_le x
              have q5 := cells_le y
              generalize cellsL l = nl at *
              generalize cellsL x = nx at *
              generalize cellsL y = ny at *
              have p1 : (nl : Int) ≤ (nx : Int) + (ny : Int) := by omega
              have p2 : (nx : Int) ≤ (nl : Int) := by omega
              have p3 : (ny : Int) ≤ (nl : Int) := by omega
              clear RL RX RY RW BB B3 HL10 HX10 HY10 HW2 HB2 HR3 HJC HJO HM1 HSL HW HL HA HC HB10 HGA HGB HGJ
              go_wp2_with fail
              refine hk.mono ?_; rintro e u1 ⟨rfl, k1⟩
              clear hk
              go_wp2_with fail
              refine (HF5.out u1 k1).mono ?_; rintro e u2 ⟨v2, rfl, ho2, kb2⟩
              obtain ⟨A2, c2, rfl⟩ := ho2.form
              rw [five_of]
              have k2 := k1.trans (kb2.mono k1.size)
              clear ho2 kb2 k1
              go_wp2_with fail
              refine (HCL.out u2 k2).mono ?_; rintro e u3 ⟨rfl, kb3⟩
              have k3 := k2.trans (kb3.mono k2.size)
              clear kb3 k2
              go_wp2_with fail
              refine (HCX.out u3 k3).mono ?_; rintro e u4 ⟨rfl, kb4⟩
              have k4 := k3.trans (kb4.mono k3.size)
              clear kb4 k3
              go_wp2_with fail
              refine (HCY.out u4 k4).mono ?_; rintro e u5 ⟨rfl, kb5⟩
              have k5 := k4.trans (kb5.mono k4.size)
              clear kb5 k4
              go_wp2_with fail
              refine (HCL.out u5 k5).mono ?_; rintro e u6 ⟨rfl, kb6⟩
              have k6 := k5.trans (kb6.mono k5.size)
              clear kb6 k5
              go_wp2_with fail
              refine (HCX.out u6 k6).mono ?_; rintro e u7 ⟨rfl, kb7⟩
              have k7 := k6.trans (kb7.mono k6.size)
              clear kb7 k6
              go_wp2_with fail
              refine (HCY.out u7 k7).mono ?_; rintro e u8 ⟨rfl, kb8⟩
              have k8 := k7.trans (kb8.mono k7.size)
              clear kb8 k7
              go_wp2_with fail
              refine (HWK.out u8 k8).mono ?_; rintro e u9 ⟨rfl, kb9⟩
              have k9 := k8.trans (kb9.mono k8.size)
              go_wp2_with fail
              go_ret
              exact ⟨ret1 rfl, HBB.out u9 k9⟩
end Go.Proofs.YtccigjelbnjcoaaGreatDoor.RefsC
