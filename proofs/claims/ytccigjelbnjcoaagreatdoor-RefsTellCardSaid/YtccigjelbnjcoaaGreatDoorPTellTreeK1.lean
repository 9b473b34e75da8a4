/-
  A queue of nodes in memory; contract of the statements' helper that counts a tree's nodes.
-/
import Derived.Test.YtccigjelbnjcoaaGreatDoorPTellTreeP0
import Derived.Test.YtccigjelbnjcoaaGreatDoorPTellTreeP4
import Derived.Test.YtccigjelbnjcoaaGreatDoorPTellNumR
import Derived.Test.YtccigjelbnjcoaaGreatDoorPTellLexF
namespace Go.Proofs.YtccigjelbnjcoaaGreatDoor.TreeC
set_option linter.unusedVariables false
open Go.RowKit Go.Proofs.YtccigjelbnjcoaaGreatDoor.NumC Go.Proofs.YtccigjelbnjcoaaGreatDoor.LexC
theorem addr_add0 (g j : Nat) : (⟨g, 0, none⟩ : Addr).add j = ⟨g, j, none⟩ := by unfold Addr.add; split <;> simp_all
theorem addr_add (g i j : Nat) : (⟨g, i, none⟩ : Addr).add j = ⟨g, i + j, none⟩ := by
  unfold Addr.add
  split
  · rename_i h; subst h; rfl
  · rfl
theorem RowV.app {w : World} {P : Nat → Prop} {ka : Fo} {ws : List Value} (hw : RowV w P ka ws) : ∀ (fo : Fo) (vs : List Value), RowV w P fo vs → RowV w P (fo.app ka) (vs ++ ws) := by
  intro fo
  induction fo with
  | nil => intro vs h; cases vs with
    | nil => exact hw
    | cons v vs => exact absurd h (by simp [RowV])
  | cons f kids next _ ih => intro vs h; cases vs with
    | nil => exact absurd h (by simp [RowV])
    | cons v vs => exact ⟨h.1, ih vs h.2⟩
theorem ncells_app (vs ws : List Value) : ncells (vs ++ ws) = ncells vs ++ ncells ws := by unfold ncells; rw [List.flatMap_append]
def QS (w : World) (B : Nat) (v : Value) (fo : Fo) : Prop := ∃ vs, w.ownsRow B 30 10 v fo.len (ncells vs) ∧ RowV w (fun g => g < B) fo vs
theorem QS.more {w w' : World} {B : Nat} {v v' : Value} {fo kd : Fo} {vs ws : List Value} (hv : RowV w (fun g => g < B) fo vs) (hw : RowV w (fun g => g < B) kd ws) (ho : w'.ownsRow B 30 10 v' (fo.len + kd.len) (ncells vs ++ ncells ws)) (hg : w.grownBy w' v.ownBlock) (hlt : ∀ k, v.ownBlock = some k → B ≤ k ∧ k < w.heap.size) : QS w' B v' (fo.app kd) := by
  refine ⟨vs ++ ws, by rw [ncells_app, Fo.len_app]; exact ho, RowV.same (fun g hg2 hl => ⟨hg.block g hl (fun e => by have := (hlt g e.symm).1; omega), hg2⟩) _ _ (RowV.app hw fo vs hv)⟩
theorem below_grown {w wr w' : World} {B : Nat} {row : Option Nat} (h : Below B w wr) (hB : B ≤ wr.heap.size) (hg : wr.grownBy w' row) (hr : ∀ k, row = some k → B ≤ k) : Below B w w' :=
  ⟨hg.os.trans h.os, hg.tape.trans h.tape, hg.output.trans h.output, Nat.le_trans h.size hg.size, fun k hk => (hg.block k (by omega) (fun e => by have := hr k e.symm; omega)).trans (h.block k hk)⟩
theorem kids_below {w wr : World} {B : Nat} {kd : Fo} {A : Option Addr} (h : KidsAt w (fun g => g < B) kd A) (hb : Below B w wr) (hB : B ≤ w.heap.size) : KidsAt wr (fun g => g < B) kd A := by
  rcases h with h | ⟨g, o, e, hr⟩
  · exact Or.inl h
  · exact Or.inr ⟨g, o, e, RowAt.same (fun g hg hl => ⟨hb.block g hg, hg⟩) _ _ _ hr⟩
theorem kids_row {w : World} {P : Nat → Prop} {kd : Fo} {A : Option Addr} (h : KidsAt w P kd A) {i : Nat} (hi : i < kd.len) : ∃ g o, A = some ⟨g, o, none⟩ ∧ RowAt w P kd g o := by
  rcases h with h | h
  · rw [h] at hi; exact absurd hi (by simp [Fo.len])
  · exact h
end Go.Proofs.YtccigjelbnjcoaaGreatDoor.TreeC
namespace Go.Proofs.YtccigjelbnjcoaaGreatDoor.RefsC
set_option linter.unusedVariables false
open Go.RowKit Go.Proofs.YtccigjelbnjcoaaGreatDoor.NumC
open Go.Proofs.YtccigjelbnjcoaaGreatDoor.TreeC (Kept)
def RowsAt (w : World) (g : Nat) (m : Nat → Nat) : Prop := ∃ cs : Array Value, w.heap[g]? = some (.cells cs 57 (0, 0)) ∧ cs.size = 1001 ∧ ∀ i, i < 1001 → cs[i]? = some (.int .u64 ((m i : Nat) : Int)) ∧ m i < 2251799813685248
theorem RowsAt.lt {w : World} {g : Nat} {m : Nat → Nat} (h : RowsAt w g m) : g < w.heap.size := by
  obtain ⟨cs, h, -⟩ := h; exact (Array.getElem?_eq_some_iff.1 h).1
theorem RowsAt.below {w w' : World} {g : Nat} {m : Nat → Nat} (h : RowsAt w g m) (hk : Below w.heap.size w w') : RowsAt w' g m := by
  have hl := h.lt
  obtain ⟨cs, h1, h2⟩ := h
  exact ⟨cs, (hk.block g hl).trans h1, h2⟩
theorem RowsAt.cell {w : World} {g : Nat} {m : Nat → Nat} (h : RowsAt w g m) (i : Nat) (hi : i < 1001) : w.cell? ⟨g, i, none⟩ = some (.int .u64 ((m i : Nat) : Int)) ∧ w.frozen? ⟨g, i, none⟩ = false ∧ m i < 2251799813685248 := by
  obtain ⟨cs, h1, h2, h3⟩ := h
  refine ⟨?_, ?_, (h3 i hi).2⟩
  · unfold World.cell?; simp [h1, (h3 i hi).1]
  · unfold World.frozen?; simp [h1]
theorem RowsAt.store {w : World} {g : Nat} {m : Nat → Nat} (h : RowsAt w g m) (i v : Nat) (hv : v < 2251799813685248) : RowsAt (w.setCell ⟨g, i, none⟩ (.int .u64 (v : Int))) g (fun j => if j = i then v else m j) := by
  obtain ⟨cs, h1, h2, h3⟩ := h
  refine ⟨_, heap_setCell_same w g i cs _ _ h1, by simpa using h2, fun j hj => ?_⟩
  rw [Array.getElem?_setIfInBounds]
  by_cases e : j = i
  · subst e
    rw [if_pos rfl, if_pos (by omega)]
    exact ⟨by simp, by simpa using hv⟩
  · rw [if_neg (fun e2 => e e2.symm)]
    have := h3 j hj
    simp only [e, if_false]
    exact this
def colN (p q : Nat) : Nat := 2 ^ (q + 1) - 2 ^ p
theorem col_bit {p q : Nat} (h : p ≤ q) (i : Nat) : (colN p q).testBit i = decide (p ≤ i ∧ i ≤ q) := by
  have e : colN p q = 2 ^ p * (2 ^ (q + 1 - p) - 1) := by
    unfold colN
    rw [Nat.mul_sub, Nat.mul_one, ← Nat.pow_add, show p + (q + 1 - p) = q + 1 from by omega]
  rw [e, Nat.testBit_two_pow_mul, Nat.testBit_two_pow_sub_one, ← Bool.decide_and, decide_eq_decide]
  omega
theorem col_lt {p q : Nat} (hq : q ≤ 50) : colN p q < 2251799813685248 := by
  unfold colN
  have h1 : 2 ^ (q + 1) ≤ 2 ^ 51 := Nat.pow_le_pow_right (by decide) (by omega)
  have h2 : 0 < 2 ^ p := Nat.pow_pos (by decide)
  omega
theorem col_wrap {p q : Nat} (h : p ≤ q) (hq : q ≤ 50) : IntKind.u64.wrap (IntKind.u64.wrap (2 ^ (q + 1)) - IntKind.u64.wrap (2 ^ p)) = ((colN p q : Nat) : Int) := by
  have h1 : (2 : Nat) ^ (q + 1) ≤ 2 ^ 51 := Nat.pow_le_pow_right (by decide) (by omega)
  have h2 : (2 : Nat) ^ p ≤ 2 ^ (q + 1) := Nat.pow_le_pow_right (by decide) (by omega)
  have h3 : (2 : Int) ^ (q + 1) = ((2 ^ (q + 1) : Nat) : Int) := by push_cast; rfl
  have h4 : (2 : Int) ^ p = ((2 ^ p : Nat) : Int) := by push_cast; rfl
  rw [h3, h4]
  unfold colN
  generalize (2 : Nat) ^ (q + 1) = x at *
  generalize (2 : Nat) ^ p = y at *
  clear h3 h4
  simp only [IntKind.wrap_u64]
  omega
def coverN (m : Nat → Nat) (v o n : Nat) (i : Nat) : Nat := if o ≤ i ∧ i < o + n then m i ||| v else m i
set_option maxHeartbeats 1000000 in
set_option maxRecDepth 100000 in
theorem ccover (a c : Int) (p q : Nat) (h1 : p ≤ q) (h2 : q ≤ 50) (g o n cap : Nat) (m : Nat → Nat) (w : World) (ho : o + n ≤ 1001) (hR : RowsAt w g m) :
    Calls Tryz.prog 39 #[.slice (some ⟨g, o, none⟩) n cap, .agg #[.int .i64 a, .int .i64 p, .int .i64 c, .int .i64 q]] w fun e w' => e = .returned (.tuple #[]) ∧ Kept g w w' ∧ RowsAt w' g (coverN m (colN p q) o n) := by
  have HE := Lib.hid (col_wrap h1 h2)
  have hcl := col_lt (p := p) h2
  have HR := Lib.hid hR
  have hg := hR.lt
  clear hR
  go_enter Tryz.func39, Tryz.ntmps39
  go_wp2
  go_quiet (fail)
  go_wp2_with fail
  rw [HE.out]
  generalize hcv0 : colN p q = v at *
  have hcv := Lib.hid hcv0
  clear hcv0
  have K1 : Kept g w ((w.alloc (.cells #[.int .i64 a, .int .i64 p, .int .i64 c, .int .i64 q] 27)).drewN nq) := ((Kept.refl g w).alloc _).drew nq
  have HR1 : RowsAt ((w.alloc (.cells #[.int .i64 a, .int .i64 p, .int .i64 c, .int .i64 q] 27)).drewN nq) g m := HR.out.below (((Below.refl _ w).alloc (Nat.le_refl _) _).trans ⟨rfl, rfl, rfl, Nat.le_refl _, fun _ _ => rfl⟩)
  generalize ((w.alloc (.cells #[.int .i64 a, .int .i64 p, .int .i64 c, .int .i64 q] 27)).drewN nq) = W at *
  go_loopw [18] (fun iv wr => ∃ i : Nat, i ≤ n ∧ iv = .int .i64 i ∧ Hid (Kept g W wr ∧ RowsAt wr g (coverN m v o i))) (fun iv _ => n - (intOf iv).toNat)
  case atStart =>
    refine ⟨0, Nat.zero_le _, rfl, Lib.hid ⟨Kept.refl _ _, ?_⟩⟩
    rw [show coverN m v o 0 = m from by funext j; unfold coverN; rw [if_neg (by omega)]]
    exact HR1
  case round =>
    obtain ⟨i, hi, rfl, HR2⟩ := hrel
    obtain ⟨hk, hr⟩ := HR2.out
    by_cases hlt : i < n
    · have hd1 : (i : Int) < (n : Int) := by omega
      obtain ⟨c1, c2, c3⟩ := hr.cell (o + i) (by omega)
      have hm : coverN m v o i (o + i) = m (o + i) := by unfold coverN; rw [if_neg (by omega)]
      rw [hm] at c1 c3
      have fo := bits_or (m (o + i)) v (by omega) (by omega)
      have HS := Lib.hid (hr.store (o + i) (m (o + i) ||| v) (Nat.or_lt_two_pow (n := 51) c3 hcl))
      have HK := Lib.hid (hk.setCell (o + i) (.int .u64 ((m (o + i) ||| v : Nat) : Int)))
      generalize hor : m (o + i) ||| v = u at *
      clear hk hr hm
      have ef : (fun j => if j = o + i then u else coverN m v o i j) = coverN m v o (i + 1) := by
        funext j
        unfold coverN
        by_cases e : j = o + i
        · rw [if_pos e, if_pos (by omega), e]; exact hor.symm
        · rw [if_neg e]
          by_cases e2 : o ≤ j ∧ j < o + i
          · rw [if_pos e2, if_pos (by omega)]
          · rw [if_neg e2, if_neg (by omega)]
      rw [ef] at HS
      go_wp2
      go_roundw
      case rel => exact ⟨i + 1, by omega, by go_num, Lib.hid ⟨HK.out, HS.out⟩⟩
      case measure => simp [intOf]; omega
    · have hd1 : ¬ (i : Int) < (n : Int) := by omega
      obtain rfl : i = n := by omega
      have HF := Lib.hid (show Kept g w wr ∧ RowsAt wr g (coverN m v o i) from ⟨K1.trans hk, hr⟩)
      clear hk hr
      go_wp2
      rw [← hcv.out] at HF
      exact bodyPost_end (results_none (by rfl) _ _ _) rfl ⟨rfl, HF.out.1, HF.out.2⟩
end Go.Proofs.YtccigjelbnjcoaaGreatDoor.RefsC
namespace Go.Proofs.YtccigjelbnjcoaaGreatDoor.RefsC
set_option linter.unusedVariables false
open Go.Proofs.YtccigjelbnjcoaaGreatDoor.AddrC (Cell cellB beforeB FineP fineB MeetP meetB HasP hasB)
def laidN (m : Nat → Nat) (x : Rc) : Nat → Nat := if fineB x.a x.b x.c x.d = true then coverN m (colN x.b.toNat x.d.toNat) x.a.toNat (x.c - x.a + 1).toNat else m
def rowsN (l : List Rc) : Nat → Nat := l.foldl laidN (fun _ => 0)
theorem rows_take (l : List Rc) (k : Nat) (x : Rc) (hx : l[k]? = some x) : rowsN (l.take (k + 1)) = laidN (rowsN (l.take k)) x := by
  have hk : k < l.length := (List.getElem?_eq_some_iff.1 hx).1
  unfold rowsN
  rw [List.take_add_one, hx, List.foldl_append]
  rfl
theorem rows_bit (l : List Rc) (r i : Nat) : ∀ m : Nat → Nat, (l.foldl laidN m r).testBit i = ((m r).testBit i || hitsL l r i) := by
  induction l with
  | nil => intro m; simp [hitsL]
  | cons x l ih =>
    intro m
    rw [List.foldl_cons, ih]
    have h1 : hitsL (x :: l) r i = (hasB x.a x.b x.c x.d r i || hitsL l r i) := by unfold hitsL; rw [List.any_cons]
    rw [h1, ← Bool.or_assoc]
    congr 1
    unfold laidN
    by_cases hf : fineB x.a x.b x.c x.d = true
    · rw [if_pos hf]
      have hfp : FineP x.a x.b x.c x.d := of_decide_eq_true hf
      have hfp2 := hfp
      obtain ⟨⟨⟨k1, k2⟩, k3, k4⟩, ⟨⟨k5, k6⟩, k7, k8⟩, k9, k10⟩ := hfp2
      unfold coverN
      split
      · rename_i hr
        rw [Nat.testBit_or, col_bit (by omega)]
        congr 1
        unfold hasB
        rw [decide_eq_decide]
        constructor
        · intro h; exact ⟨hfp, by omega, by omega, by omega, by omega⟩
        · rintro ⟨-, h⟩; omega
      · rename_i hr
        have : hasB x.a x.b x.c x.d r i = false := decide_eq_false (fun h => by obtain ⟨-, h⟩ := h; omega)
        rw [this, Bool.or_false]
    · rw [if_neg hf]
      have : hasB x.a x.b x.c x.d r i = false := decide_eq_false (fun h => hf (decide_eq_true h.1))
      rw [this, Bool.or_false]
theorem rows_hit (l : List Rc) (r i : Nat) : (rowsN l r).testBit i = hitsL l r i := by
  unfold rowsN
  rw [rows_bit]; simp
theorem ones_row (l : List Rc) (r : Nat) : onesN (rowsN l r) = rowL l r := by
  unfold onesN rowL
  have h1 : ((List.range 64).filter fun i => (rowsN l r).testBit i) = (List.range 64).filter fun (i : Nat) => hitsL l r i := List.filter_congr fun i _ => rows_hit l r i
  rw [h1]
  have h2 : List.range 64 = [0] ++ ((List.range 50).map (· + 1) ++ (List.range 13).map (· + 51)) := by decide +kernel
  rw [h2, List.filter_append, List.filter_append, List.length_append, List.length_append]
  have h3 : ([0].filter fun (i : Nat) => hitsL l r i) = [] := by
    rw [List.filter_eq_nil_iff]
    intro i hi hh
    have := hits_grid hh
    unfold Cell at this
    simp at hi
    omega
  have h4 : (((List.range 13).map (· + 51)).filter fun (i : Nat) => hitsL l r i) = [] := by
    rw [List.filter_eq_nil_iff]
    intro i hi hh
    have := hits_grid hh
    unfold Cell at this
    obtain ⟨j, hj, rfl⟩ := List.mem_map.1 hi
    omega
  rw [h3, h4, List.filter_map, List.length_map]
  simp only [List.length_nil, Nat.zero_add, Nat.add_zero]
  congr 1
theorem row_zero (l : List Rc) : rowL l 0 = 0 := by
  unfold rowL
  rw [List.length_eq_zero_iff, List.filter_eq_nil_iff]
  intro i hi hh
  have := hits_grid hh
  unfold Cell at this
  omega
theorem cells_rows (l : List Rc) : ((List.range 1001).map fun j => onesN (rowsN l j)).sum = cellsL l := by
  unfold cellsL
  rw [List.range_succ_eq_map, List.map_cons, List.sum_cons, List.map_map, ones_row, show ((0 : Nat) : Int) = 0 from rfl, row_zero, Nat.zero_add]
  refine congrArg List.sum (List.map_congr_left fun j hj => ?_)
  show onesN (rowsN l (j + 1)) = _
  rw [ones_row]
  rfl
end Go.Proofs.YtccigjelbnjcoaaGreatDoor.RefsC
namespace Go.Proofs.YtccigjelbnjcoaaGreatDoor.RefsC
set_option linter.unusedVariables false
open Go.RowKit Go.Proofs.YtccigjelbnjcoaaGreatDoor.NumC
open Go.Proofs.YtccigjelbnjcoaaGreatDoor.TreeC (Kept)
theorem zero_rows (w : World) : RowsAt (w.alloc (.cells Tryz.zeroCells57 57)) w.heap.size (fun _ => 0) := by
  have h1 : Tryz.zeroCells57 = Array.replicate 1001 (.int .u64 0) := by kernel_rfl
  refine ⟨_, heap_alloc_new _ _, by rw [h1]; simp, fun i hi => ?_⟩
  rw [h1, Array.getElem?_replicate, if_pos hi]
  exact ⟨rfl, Nat.zero_lt_succ _⟩
theorem below_kept {g : Nat} {w W W' : World} (h : Below g w W) (hg : g ≤ W.heap.size) (k : Kept g W W') : Below g w W' :=
  ⟨k.os.trans h.os, k.tape.trans h.tape, k.output.trans h.output, Nat.le_trans h.size k.size, fun i hi => (k.block i (by omega) (by omega)).trans (h.block i hi)⟩
theorem slice_rows (g : Nat) (a c : Int) (w : World) (ha : 0 ≤ a) (hac : a ≤ c + 1) (hc : c ≤ 1000) (ha2 : a ≤ 1000) :
    (Instr.sliceAt 57 (.pointer (some ⟨g, 0, none⟩)) (some (.int .i64 a)) (some (.int .i64 (c + 1))) none).run Tryz.prog w = .ok (.slice (some ⟨g, a.toNat, none⟩) (c - a + 1).toNat (1001 - a.toNat)) w := by
  have hl : Tryz.prog.arrayLen 57 = 1001 := by kernel_rfl
  have he : Tryz.prog.elem 57 = 56 := by kernel_rfl
  rw [run_sliceAt_array_lh (P := Tryz.prog) w 57 ⟨g, 0, none⟩ (by kernel_rfl) .i64 .i64 a (c + 1) ha hac (by rw [hl]; omega), he, Tryz.sizeOf56]
  simp only [Result.andThen_ok, slicedAt, hl]
  rw [if_neg (by omega)]
  have e1 : (c + 1).toNat - a.toNat = (c - a + 1).toNat := by omega
  rw [e1]
  unfold Addr.add
  split
  · rename_i h
    rw [show a.toNat = 0 from by omega]
  · simp
theorem wpList_load_rows {ops : Array Oper} {rest : List Oper} {o : Oper} {a : Act} {Q : Exit → Act → World → Prop} (w : World) (hgd : o.guard = none) (x : Operand) (ho : o.op = .load 57 x) {g : Nat} {cs : Array Value}
    (hx : a.eval x = .pointer (some ⟨g, 0, none⟩)) (hcs : w.heap[g]? = some (.cells cs 57 (0, 0))) (hs : cs.size = 1001)
    (h : wpList Tryz.prog ops Q rest (a.put o.dst (.agg cs)) w) : wpList Tryz.prog ops Q (o :: rest) a w := by
  refine wpList_plain hgd fun K hK => ?_
  have hl : (loadCells ⟨g, 0, none⟩ cs.toList.length).run Tryz.prog w = .ok cs w := by
    have := run_loadCells_list (P := Tryz.prog) w ⟨g, 0, none⟩ cs.toList (fun j v hj => by
      have : (⟨g, 0, none⟩ : Addr).add j = ⟨g, j, none⟩ := by unfold Addr.add; split <;> simp_all
      rw [this]
      unfold World.cell?
      simp only [hcs]
      simpa using hj)
    simpa using this
  rw [Array.length_toList, hs] at hl
  unfold Oper.wp execOp
  simp only [ho, hx, Instr.loadAt, Instr.sureAddr, Sem.run_bind, Sem.run_pure, Result.andThen_ok, loadVar, Tryz.isAgg57, Tryz.sizeOf57, hl, if_true]
  exact hK _ _ h
theorem index_rows {cs : Array Value} {i : Nat} {v : Value} (hi : i < 1001) (hv : cs[i]? = some v) (w : World) :
    (Instr.index 57 (.agg cs) (.int .i64 (i : Int))).run Tryz.prog w = .ok v w := by
  have hu : Tryz.prog.underlying 57 = some (.array 1001 56) := by kernel_rfl
  have h1 : (0 : Int) ≤ (i : Int) ∧ (i : Int) < (1001 : Nat) := by omega
  simp only [Instr.index, asIntOf, run_underlying hu, Sem.run_bind, Sem.run_pure, Result.andThen_ok, if_pos h1, part, Tryz.isAgg56, Tryz.sizeOf56, Int.toNat_natCast, Nat.mul_one, hv]
  rfl
set_option maxHeartbeats 1000000 in
set_option maxRecDepth 100000 in
theorem cCells (l : List Rc) (A : Option Addr) (c : Nat) (w : World) (hl : l.length ≤ 1000000) (hR : RAt w w.heap.size l A) : Calls Tryz.prog 18 #[.slice A l.length c] w fun e w' => e = .returned (.int .i64 (cellsL l : Int)) ∧ Below w.heap.size w w' := by
  have HR := Lib.hid hR
  clear hR
  go_enter Tryz.func18, Tryz.ntmps18
  go_wp2_with fail
  have hz := zero_rows w
  have K0 : Below w.heap.size w (w.alloc (.cells Tryz.zeroCells57 57)) := (Below.refl _ w).alloc (Nat.le_refl _) _
  generalize (w.alloc (.cells Tryz.zeroCells57 57)) = W at *
  generalize hg : w.heap.size = g at *
  have HK := Lib.hid K0
  have HZ := Lib.hid hz
  clear K0 hz
  go_loopw [11] (fun iv wr => ∃ k : Nat, k ≤ l.length ∧ iv = .int .i64 k ∧ Hid (Below g w wr ∧ RowsAt wr g (rowsN (l.take k)))) (fun iv _ => l.length - (intOf iv).toNat)
  case atStart => exact ⟨0, Nat.zero_le _, rfl, Lib.hid ⟨HK.out, HZ.out⟩⟩
  case round =>
    obtain ⟨k, hk, rfl, HR2⟩ := hrel
    obtain ⟨hb, hr⟩ := HR2.out
    clear HZ HK
    by_cases hlt : k < l.length
    · have hd1 : (k : Int) < (l.length : Int) := by omega
      obtain ⟨x, hx⟩ := nth_some l k hlt
      have HX := Lib.hid (rows_take l k x hx)
      obtain ⟨g0, o, rfl, hg0, c0, c1, c2, c3⟩ := (HR.out.below hb).nth k x hx
      have hlg := hr.lt
      have ng : g0 ≠ g := by omega
      have n2 : wr.heap.size ≠ g := by omega
      have HB := Lib.hid hb
      have HRR := Lib.hid hr
      clear hb hr
      go_wp2_with fail
      have hbx := RBox.new wr x
      have B1 : Below g wr (wr.alloc (.cells #[.int .i64 x.a, .int .i64 x.b, .int .i64 x.c, .int .i64 x.d] 27)) := (Below.refl _ wr).alloc (by omega) _
      have hr1 := HRR.out.below ((Below.refl wr.heap.size wr).alloc (Nat.le_refl _) (.cells #[.int .i64 x.a, .int .i64 x.b, .int .i64 x.c, .int .i64 x.d] 27))
      generalize (wr.alloc (.cells #[.int .i64 x.a, .int .i64 x.b, .int .i64 x.c, .int .i64 x.d] 27)) = V at *
      generalize hbn : wr.heap.size = bx at *
      refine (AddrC.fine _ _ _ _ _).mono ?_; rintro e V2 ⟨rfl, hb2⟩
      have hbx2 := hbx.below hb2 hbx.lt
      have hr2 := hr1.below hb2
      have HB2 : Hid (Below g w V2) := Lib.hid (HB.out.trans (B1.trans (hb2.mono (Nat.le_of_lt hr1.lt))))
      have hlb := hbx2.lt
      obtain ⟨d0, d1, d2, d3⟩ := hbx2.cells
      have HR2 := Lib.hid hr2
      clear hbx hbx2 hr1 hb2 B1 hr2 c0 c1 c2 c3 HB HRR
      cases hf : AddrC.fineB x.a x.b x.c x.d
      · have HF : Hid (rowsN (l.take (k + 1)) = rowsN (l.take k)) := Lib.hid (by rw [HX.out]; unfold laidN; rw [hf]; rfl)
        clear hf
        go_wp2_with fail
        go_roundw
        case rel => exact ⟨k + 1, by omega, by go_num, Lib.hid ⟨HB2.out, by rw [HF.out]; exact HR2.out⟩⟩
        case measure => simp [intOf]; omega
      · have HF : Hid (rowsN (l.take (k + 1)) = coverN (rowsN (l.take k)) (colN x.b.toNat x.d.toNat) x.a.toNat (x.c - x.a + 1).toNat) := Lib.hid (by rw [HX.out]; unfold laidN; rw [hf]; rfl)
        have hfp : AddrC.FineP x.a x.b x.c x.d := of_decide_eq_true hf
        obtain ⟨⟨⟨k1, k2⟩, k3, k4⟩, ⟨⟨k5, k6⟩, k7, k8⟩, k9, k10⟩ := hfp
        clear hf
        go_wp2_with fail
        refine region_tail 9 (by kernel_rfl) (by kernel_rfl) ?_
        simp only [List.take_succ_cons, List.take_zero, List.drop_succ_cons, List.drop_zero]
        replace d0 : V2.drew.cell? ⟨bx, 0, none⟩ = some (.int .i64 x.a) := d0
        replace d1 : V2.drew.cell? ⟨bx, 1, none⟩ = some (.int .i64 x.b) := d1
        replace d2 : V2.drew.cell? ⟨bx, 2, none⟩ = some (.int .i64 x.c) := d2
        replace d3 : V2.drew.cell? ⟨bx, 3, none⟩ = some (.int .i64 x.d) := d3
        replace HB2 : Hid (Below g w V2.drew) := Lib.hid (below_drew HB2.out)
        replace HR2 : Hid (RowsAt V2.drew g (rowsN (l.take k))) := Lib.hid HR2.out
        replace hlb : bx < V2.drew.heap.size := hlb
        generalize V2.drew = V3 at *
        have hw : IntKind.i64.wrap (x.c + 1) = x.c + 1 := by rw [IntKind.wrap_i64]; omega
        have hsl := slice_rows g x.a x.c V3 (by omega) (by omega) (by omega) (by omega)
        iterate 9 still_step
        refine wpStill_nil ?_
        go_wp2_with fail
        have hcv := ccover x.a x.c x.b.toNat x.d.toNat (by omega) (by omega) g x.a.toNat (x.c - x.a + 1).toNat (1001 - x.a.toNat) (rowsN (l.take k)) V3 (by omega) HR2.out
        rw [Int.toNat_of_nonneg (by omega), Int.toNat_of_nonneg (by omega)] at hcv
        refine hcv.mono ?_; rintro e V4 ⟨rfl, hk4, hr4⟩
        have HB4 : Hid (Below g w V4) := Lib.hid (below_kept HB2.out (by omega) hk4)
        have HR4 : Hid (RowsAt V4 g (rowsN (l.take (k + 1)))) := Lib.hid (by rw [HF.out]; exact hr4)
        clear hk4 hr4 d0 d1 d2 d3 hsl hw
        go_wp2_with fail
        go_roundw
        case rel => exact ⟨k + 1, by omega, by go_num, Lib.hid ⟨HB4.out, HR4.out⟩⟩
        case measure => simp [intOf]; omega
    · have hd1 : ¬ (k : Int) < (l.length : Int) := by omega
      obtain rfl : k = l.length := by omega
      have hr9 : RowsAt wr g (rowsN l) := by rw [List.take_length] at hr; exact hr
      have HB9 := Lib.hid hb
      clear hb hr
      have HR9 := Lib.hid hr9
      obtain ⟨cs, hcs, hsz, hcc⟩ := hr9
      have HCC := Lib.hid hcc
      have HCS := Lib.hid hcs
      have HSZ := Lib.hid hsz
      clear hcc hcs hsz
      go_wp2_with (refine wpList_load_rows _ rfl (.tmp 3) rfl rfl HCS.out HSZ.out ?_)
      go_loopw [6, 29] (fun sv iv W9 => ∃ i s : Nat, i ≤ 1001 ∧ s ≤ 64 * i ∧ sv = .int .i64 s ∧ iv = .int .i64 i ∧ W9 = wr ∧ Hid (s = ((List.range i).map fun j => onesN (rowsN l j)).sum)) (fun _ iv _ => 1001 - (intOf iv).toNat)
      case atStart => exact ⟨0, 0, by omega, by omega, rfl, rfl, rfl, Lib.hid rfl⟩
      case round =>
        obtain ⟨i, s, hi, hs, rfl, rfl, rfl, HS⟩ := hrel
        by_cases hlt : i < 1001
        · have hd2 : (i : Int) < 1001 := by omega
          obtain ⟨q1, q2⟩ := HCC.out i hlt
          have hov : onesN (rowsN l i) ≤ 64 := by
            unfold onesN
            exact Nat.le_trans (List.length_filter_le _ _) (by simp)
          have hcall := ones (rowsN l i) (by omega) wr
          have HN : Hid (s + onesN (rowsN l i) = ((List.range (i + 1)).map fun j => onesN (rowsN l j)).sum) := Lib.hid (by rw [List.range_succ, List.map_append, List.sum_append, ← HS.out]; simp)
          generalize onesN (rowsN l i) = u at *
          generalize rowsN l i = v at *
          have hsz2 := HSZ.out
          have hix := index_rows hlt q1 wr
          go_wp2_with fail
          refine hcall.mono ?_; rintro e w5 ⟨rfl, rfl⟩
          go_wp2_with fail
          go_roundw
          case rel => exact ⟨i + 1, s + u, by omega, by omega, by go_num, by go_num, trivial, HN⟩
          case measure => simp [intOf]; omega
        · have hd2 : ¬ (i : Int) < 1001 := by omega
          obtain rfl : i = 1001 := by omega
          go_wp2_with fail
          go_ret
          refine ⟨?_, HB9.out⟩
          rw [HS.out, cells_rows]
          rfl
end Go.Proofs.YtccigjelbnjcoaaGreatDoor.RefsC
