/-
  The library's Insert of one rectangle into a row of a call's own: contract.
-/
import Derived.Test.YtccigjelbnjcoaaGreatDoorPOfTreeV
import Derived.Test.YtccigjelbnjcoaaGreatDoorPOfLexZ7
import Derived.Test.YtccigjelbnjcoaaGreatDoorPOfTreeP8
import Derived.Test.YtccigjelbnjcoaaGreatDoorPOfNumG
import Derived.Test.YtccigjelbnjcoaaGreatDoorPOfTreeK7
import Derived.Laws.CopyRow
import Derived.Lib.AppendZerosOnto
import Derived.Lib.Overlaps
import Derived.Laws.Externs
import Derived.Deep.AppendLies
namespace Go.Proofs.YtccigjelbnjcoaaGreatDoor.RefsC
set_option linter.unusedVariables false
open Go.RowKit Go.Proofs.YtccigjelbnjcoaaGreatDoor.NumC
open Go.Proofs.YtccigjelbnjcoaaGreatDoor.TreeC (addr_add0 addr_add)
theorem rect_info : (Tryz.prog.info? 27).map (fun i => (i.zero, i.size, i.bytes)) = some (some (.agg #[.int .i64 0, .int .i64 0, .int .i64 0, .int .i64 0]), 4, 32) := by kernel_rfl
theorem RBox.news {w : World} {b : Nat} {x : Rc} (h : RBox w b x) : ∀ j u, (rcells [x])[j]? = some u → w.cell? ((⟨b, 0, none⟩ : Addr).add j) = some u := fun j u hj => by
  rw [addr_add0]
  obtain ⟨c0, c1, c2, c3⟩ := h.cells
  have hl : j < 4 := by have := (List.getElem?_eq_some_iff.1 hj).1; rw [rcells_len] at this; simpa using this
  have h4 : j = 0 ∨ j = 1 ∨ j = 2 ∨ j = 3 := by omega
  rcases h4 with rfl | rfl | rfl | rfl <;> cases hj <;> assumption
def InPost (B : Nat) (v : Value) (l : List Rc) (w : World) (e : Ending) (w' : World) : Prop := ∃ v', e = .returned v' ∧ OS w' B v' l ∧ w.grownBy w' v.ownBlock ∧ (v'.ownBlock = v.ownBlock ∨ v'.ownBlock = some w.heap.size)
set_option maxHeartbeats 1000000 in
set_option maxRecDepth 100000 in
theorem cinsert_end (B : Nat) (v : Value) (l : List Rc) (x : Rc) (vb : Nat) (w : World) (hl : l.length ≤ 100000) (hO : OS w B v l) (hx : RBox w vb x) (hB : B ≤ w.heap.size) :
    Calls Tryz.prog 67 #[v, .int .i64 (l.length : Nat), .slice (some ⟨vb, 0, none⟩) 1 1] w (InPost B v (l ++ [x]) w) := by
  obtain ⟨i0, hi0, hz0, hz1, hz2⟩ := info_parts rect_info
  have HO := Lib.hid hO
  have HX := Lib.hid hx.news
  have hcases : (v = .slice none 0 0 ∧ l = []) ∨ ∃ g c, v = .slice (some ⟨g, 0, none⟩) l.length c ∧ l.length ≤ c := by
    rcases hO.2 with ⟨h1, h2⟩ | ⟨g, cap, cur, h1, -, -, h2, -⟩
    · exact Or.inl ⟨h1, List.length_eq_zero_iff.1 h2⟩
    · exact Or.inr ⟨g, cap, h1, h2⟩
  have hm1 : Hid (l.length + 1 ≤ maxLen) := Lib.hid (by unfold maxLen; omega)
  have hm2 : Hid ((l.length + 1) * 32 ≤ 140737488355328) := Lib.hid (by omega)
  clear hO hx
  rcases hcases with ⟨rfl, rfl⟩ | ⟨g, c, rfl, hc⟩
  all_goals
    go_enter Tryz.func67, Tryz.ntmps67
    go_wp2_with (at_builtin
                 refine wpList_append_own_at _ rfl (.tmp 23) (.tmp 24) 34 rfl B 27 i0 _ 4 32 Tryz.underlying34 hi0 hz0 hz1 hz2 rfl (by decide) _ _ _ rfl HO.out ⟨vb, 0, none⟩ 1 1 (rcells [x]) rfl rfl HX.out (rcells_one _) hm1.out hm2.out hB ?_
                 intro v9 w9 hq9 hg9 hz9 hat9
                 have HQ : Hid (OS w9 B v9 (_ ++ [x])) := Lib.hid (by unfold OS; rw [rcells_app, List.length_append]; exact hq9)
                 have HG := Lib.hid hg9
                 have HA := Lib.hid hat9
                 clear hq9 hg9 hz9 hat9)
    all_goals (go_ret; exact ⟨_, rfl, HQ.out, HG.out, HA.out⟩)
theorem run_copy4 (w : World) (dT sT ty : TypeId) (g o dLen dCap : Nat) (a : Addr) (sLen sCap : Nat) (cur : Array Value) (t : TypeId) (cs : List Value) (k : Nat)
    (hu : Tryz.prog.underlying dT = some (.slice 27)) (hg : w.heap[g]? = some (.cells cur t (0, 0))) (hk : k = Nat.min sLen dLen) (hn : cs.length = k * 4)
    (hsrc : ∀ j v, cs[j]? = some v → w.cell? (a.add j) = some v) (hfit : o + cs.length ≤ cur.size) (h1 : ∀ v ∈ cs, v.oneCell' = true) :
    (Builtin.copy_ #[dT, sT] ty #[.slice (some ⟨g, o, none⟩) dLen dCap, .slice (some a) sLen sCap]).run Tryz.prog w = .ok (goInt k) (w.setRow g (cur.toList.take o ++ cs ++ cur.toList.drop (o + cs.length)).toArray) := by
  have hl := run_firstCells_some (P := Tryz.prog) w 4 k a sLen sCap cs hn hsrc
  have hst := run_storeCells_at Tryz.prog g o t cs 0 cur w hg (by simpa using hfit) h1
  simp [Builtin.copy_, run_underlying hu, Builtin.lenOf, ← hk, Tryz.sizeOf27, hl, hst]
theorem wp_copy_at (w : World) {o : Oper} {a : Act} {K : Act → World → Prop} {Q : Exit → Act → World → Prop} (d s : Operand) (t t' : TypeId)
    (ho : o.op = .call { callee := .builtin .copy, args := #[d, s], argTypes := #[t, t'] }) (v u : Value) (hd : a.eval d = v) (hs : a.eval s = u) {v' : Value} {w' : World}
    (hr : (Builtin.copy_ #[t, t'] o.type #[v, u]).run Tryz.prog w = .ok v' w') (h : K (a.put o.dst v') w') : o.wp Tryz.prog a w K Q := by
  unfold Oper.wp execOp
  simp only [ho, resolve, invoke, builtin, Sem.run_bind, Sem.run_pure, Result.andThen_ok, List.map_toArray, List.map_cons, List.map_nil, hd, hs, hr]
  exact h
theorem wpList_append_at {ops : Array Oper} {rest : List Oper} {o : Oper} {a : Act} {Q : Exit → Act → World → Prop} (w : World) (hgd : o.guard = none) (s x : Operand) (t t' : TypeId)
    (ho : o.op = .call { callee := .builtin .append, args := #[s, x], argTypes := #[t, t'] }) (v u : Value) (hs : a.eval s = v) (hx : a.eval x = u) {v' : Value} {w' : World}
    (hr : (Builtin.append_ #[t, t'] o.type #[v, u]).run Tryz.prog w = .ok v' w') (h : wpList Tryz.prog ops Q rest (a.put o.dst v') w') : wpList Tryz.prog ops Q (o :: rest) a w := by
  refine wpList_plain hgd fun K hK => ?_
  unfold Oper.wp execOp
  simp only [ho, resolve, invoke, builtin, Sem.run_bind, Sem.run_pure, Result.andThen_ok, List.map_toArray, List.map_cons, List.map_nil, hs, hx, hr]
  exact hK _ _ h
theorem step_copy_at {ops : Array Oper} {o : Oper} {a : Act} {w : World} {K : Act → World → Prop} {Q : Exit → Act → World → Prop} {E : Prop}
    (hg : o.guard = none) (d x : Operand) (dT sT : TypeId) (hop : o.op = Op.call { callee := Callee.builtin Builtin.copy, args := #[d, x], argTypes := #[dT, sT] })
    (v u : Value) (hd : a.eval d = v) (hx : a.eval x = u) {v' : Value} {w' : World} (hr : (Builtin.copy_ #[dT, sT] o.type #[v, u]).run Tryz.prog w = .ok v' w') (hK : K (a.put o.dst v') w') :
    if Region.wanted o (yielded ops a.tmps) = true then Oper.wp Tryz.prog o a w K Q else E := by
  have hw : Region.wanted o (yielded ops a.tmps) = true := by simp [Region.wanted, hg]
  rw [if_pos hw]
  exact wp_copy_at w d x dT sT hop v u hd hx hr hK
end Go.Proofs.YtccigjelbnjcoaaGreatDoor.RefsC
namespace Go.Proofs.YtccigjelbnjcoaaGreatDoor.RefsC
set_option linter.unusedVariables false
open Go.RowKit Go.Proofs.YtccigjelbnjcoaaGreatDoor.NumC
open Go.Proofs.YtccigjelbnjcoaaGreatDoor.TreeC (addr_add0 addr_add Kept Kept.refl)
theorem asm {α : Type} (R Z X : List α) (a : Nat) (h : R.length = a) : (R ++ Z).take a ++ X ++ (R ++ Z).drop (a + X.length) = R ++ (X ++ Z.drop X.length) := by
  subst h
  rw [List.take_left' rfl, ← List.drop_drop, List.drop_left' rfl, List.append_assoc]
theorem put_cells (l : List Rc) (i : Nat) (x : Rc) : rcells (l.take i) ++ (rcells [x] ++ rcells (l.drop i)) = rcells (l.take i ++ x :: l.drop i) := by
  rw [← rcells_app, ← rcells_app]; rfl
theorem put_len (l : List Rc) (i : Nat) (x : Rc) (hi : i ≤ l.length) : (l.take i ++ x :: l.drop i).length = l.length + 1 := by
  rw [List.length_append, List.length_cons, List.length_take, List.length_drop]; omega
theorem put_row {w : World} {B g c : Nat} {row : Array Value} {Y : List Value} (l : List Rc) (i : Nat) (x : Rc) (hi : i ≤ l.length) (hB : B ≤ g) (hc : l.length + 1 ≤ c) (hm : c ≤ maxLen) (hg : w.heap[g]? = some (.cells row 27 (0, 0))) (hs : row.size = c * 4)
    (hrow : row.toList = rcells (l.take i) ++ (rcells [x] ++ (rcells (l.drop i) ++ Y))) : OS w B (.slice (some ⟨g, 0, none⟩) (l.length + 1) c) (l.take i ++ x :: l.drop i) := by
  have hl := put_len l i x hi
  refine ⟨by rw [rcells_len], Or.inr ⟨g, c, row, by rw [hl], hB, hg, by rw [hl]; exact hc, hm, hs, ?_⟩⟩
  rw [hrow, ← List.append_assoc (rcells [x]), ← List.append_assoc, put_cells, List.take_left' (rcells_len _)]
set_option maxHeartbeats 2000000 in
set_option maxRecDepth 100000 in
theorem cinsert_grow (B g c : Nat) (l : List Rc) (i : Nat) (x : Rc) (vb : Nat) (w : World) (hl : l.length ≤ 100000) (hi : i < l.length) (hc : l.length = c) (hO : OS w B (.slice (some ⟨g, 0, none⟩) l.length c) l) (hx : RBox w vb x) (hB : B ≤ w.heap.size) :
    Calls Tryz.prog 67 #[.slice (some ⟨g, 0, none⟩) l.length c, .int .i64 (i : Nat), .slice (some ⟨vb, 0, none⟩) 1 1] w (InPost B (.slice (some ⟨g, 0, none⟩) l.length c) (l.take i ++ x :: l.drop i) w) := by
  subst hc
  obtain ⟨i0, hi0, hz0, hz1, hz2⟩ := info_parts rect_info
  have hcell := fun (j : Nat) (u : Value) (h : (rcells l)[j]? = some u) => by
    have := World.ownsRow.cells hO (g := g) rfl j u h
    rwa [addr_add0] at this
  have hgl : g < w.heap.size := (hO.lt g rfl).2
  have hvl := hx.lt
  have hsplit : rcells l = rcells (l.take i) ++ rcells (l.drop i) := by rw [← rcells_app, List.take_append_drop]
  have hl1 : (rcells (l.take i)).length = i * 4 := by rw [rcells_len, List.length_take, Nat.min_eq_left (by omega)]
  have hl2 : (rcells (l.drop i)).length = (l.length - i) * 4 := by rw [rcells_len, List.length_drop]
  have hold : (Builtin.firstCells i0.size i (.slice (some ⟨g, 0, none⟩) i l.length)).run Tryz.prog w.drew = .ok (rcells (l.take i)).toArray w.drew := by
    rw [hz1]
    refine run_firstCells_some w.drew 4 i ⟨g, 0, none⟩ i l.length _ hl1 (fun j u hj => ?_)
    rw [addr_add0]
    exact hcell j u (by rw [hsplit, List.getElem?_append_left (List.getElem?_eq_some_iff.1 hj).1]; exact hj)
  have hrz := fun ty => Lib.run_append_grow_zeros (P := Tryz.prog) w 34 3 ty 27 i0 _ .i64 .i64 Tryz.underlying34 Tryz.underlying3 hi0 hz0 (some ⟨g, 0, none⟩) i l.length (rcells (l.take i)) hold (l.length + 1 - i) (by omega) (by omega) (by omega) (by omega) (by rw [hz2]; omega) (by rw [hz2]; exact growslice_fits (by omega) (by omega))
  rw [show i + (l.length + 1 - i) = l.length + 1 from by omega] at hrz
  have hGn := grownCap_ge w (l.length + 1) l.length 27
  have hG63 := grownCap_le_maxLen w (l.length + 1) l.length 27 (by unfold maxLen; omega)
  generalize grownCap w (l.length + 1) l.length 27 = G at *
  obtain ⟨ROW, hROW⟩ : ∃ ROW : Array Value, ROW = (rcells (l.take i)).toArray ++ Builtin.zeroCells (Value.agg #[.int .i64 0, .int .i64 0, .int .i64 0, .int .i64 0]).cells (l.length + 1 - i) ++ Builtin.zeroCells (Value.agg #[.int .i64 0, .int .i64 0, .int .i64 0, .int .i64 0]).cells (G - (l.length + 1)) := ⟨_, rfl⟩
  rw [← hROW] at hrz
  obtain ⟨Z, hZ⟩ : ∃ Z : List Value, ROW.toList = rcells (l.take i) ++ Z := ⟨_, by rw [hROW, Array.append_assoc, Array.toList_append]⟩
  have hRs : ROW.size = G * 4 := by
    rw [hROW, Array.size_append, Array.size_append, size_zeroCells, size_zeroCells, List.size_toArray, hl1]
    simp [Value.cells]
    omega
  clear hROW hold
  have hlx : (rcells [x]).length = 4 := rfl
  obtain ⟨W1, hW1⟩ : ∃ W1, W1 = w.drew.alloc (.cells ROW 27) := ⟨_, rfl⟩
  rw [← hW1] at hrz
  have hg1 : W1.heap[w.heap.size]? = some (.cells ROW 27 (0, 0)) := by rw [hW1]; exact heap_alloc_new w.drew _
  have hk1 : Kept w.heap.size w W1 := by rw [hW1]; exact ((Kept.refl _ w).drew 1).alloc _
  clear hW1
  have hcA := fun ty => run_copy4 W1 34 34 ty w.heap.size (i * 4) (l.length + 1 - i) (G - i) ⟨vb, 0, none⟩ 1 1 ROW _ (rcells [x]) 1 Tryz.underlying34 hg1 (by simp only [Nat.min_def]; split <;> omega) rfl
    (fun j u hj => by rw [addr_add0]; exact hk1.cell (by omega) (by have := hx.news j u hj; rwa [addr_add0] at this)) (by rw [hlx, hRs]; omega) (rcells_one _)
  rw [hZ, asm _ _ _ _ hl1] at hcA
  obtain ⟨W2, hW2⟩ : ∃ W2, W2 = W1.setRow w.heap.size (rcells (l.take i) ++ (rcells [x] ++ Z.drop (rcells [x]).length)).toArray := ⟨_, rfl⟩
  rw [← hW2] at hcA
  have hg2 : W2.heap[w.heap.size]? = some (.cells (rcells (l.take i) ++ (rcells [x] ++ Z.drop (rcells [x]).length)).toArray 27 (0, 0)) := by rw [hW2]; exact setRow_heap _ _ _ _ _ _ hg1
  have hk2 : Kept w.heap.size w W2 := by
    rw [hW2]
    exact ⟨hk1.os, hk1.tape, hk1.output, by rw [setRow_size]; exact hk1.size, fun k hk hne => (setRow_other _ _ _ _ hne).trans (hk1.block k hk hne)⟩
  have hZl : Z.length = (G - i) * 4 := by
    have := congrArg List.length hZ
    rw [Array.length_toList, hRs, List.length_append, hl1] at this
    omega
  have hs2 : (rcells (l.take i) ++ (rcells [x] ++ Z.drop (rcells [x]).length)).toArray.size = G * 4 := by
    rw [List.size_toArray, List.length_append, List.length_append, List.length_drop, hl1, hlx, hZl]
    omega
  clear hW2
  generalize hrow2 : (rcells (l.take i) ++ (rcells [x] ++ Z.drop (rcells [x]).length)).toArray = row2 at *
  have hcB := fun ty => run_copy4 W2.drew 34 34 ty w.heap.size ((i + 1) * 4) (l.length + 1 - (i + 1)) (G - (i + 1)) ⟨g, i * 4, none⟩ (l.length - i) (l.length - i) row2 _ (rcells (l.drop i)) (l.length - i) Tryz.underlying34 hg2 (by simp only [Nat.min_def]; split <;> omega) hl2
    (fun j u hj => by rw [addr_add]; exact hk2.cell (b := g) (by omega) (hcell _ u (by rw [hsplit, List.getElem?_append_right (by omega), hl1, Nat.add_sub_cancel_left]; exact hj))) (by rw [hl2, hs2]; omega) (rcells_one _)
  have hl3 : (rcells (l.take i) ++ rcells [x]).length = (i + 1) * 4 := by rw [List.length_append, hl1, hlx]; omega
  have e3 : row2.toList = (rcells (l.take i) ++ rcells [x]) ++ Z.drop (rcells [x]).length := by rw [← hrow2, List.append_assoc]
  rw [e3, asm _ _ _ _ hl3] at hcB
  obtain ⟨W3, hW3⟩ : ∃ W3, W3 = W2.drew.setRow w.heap.size (rcells (l.take i) ++ rcells [x] ++ (rcells (l.drop i) ++ (Z.drop (rcells [x]).length).drop (rcells (l.drop i)).length)).toArray := ⟨_, rfl⟩
  rw [← hW3] at hcB
  have hg3 : W3.heap[w.heap.size]? = some (.cells (rcells (l.take i) ++ rcells [x] ++ (rcells (l.drop i) ++ (Z.drop (rcells [x]).length).drop (rcells (l.drop i)).length)).toArray 27 (0, 0)) := by rw [hW3]; exact setRow_heap W2.drew _ _ _ _ _ hg2
  have hk3 : Kept w.heap.size w W3 := by
    rw [hW3]
    exact ⟨hk2.os, hk2.tape, hk2.output, by rw [setRow_size]; exact hk2.size, fun k hk hne => (setRow_other _ _ _ _ hne).trans (hk2.block k hk hne)⟩
  have HF : Hid (InPost B (.slice (some ⟨g, 0, none⟩) l.length l.length) (l.take i ++ x :: l.drop i) w (.returned (.slice (some ⟨w.heap.size, 0, none⟩) (l.length + 1) G)) W3) := Lib.hid (by
    refine ⟨_, rfl, put_row (Y := (Z.drop (rcells [x]).length).drop (rcells (l.drop i)).length) l i x (by omega) hB hGn hG63 hg3 ?_ ?_, ?_, Or.inr rfl⟩
    · rw [List.size_toArray, List.length_append, List.length_append, List.length_append, List.length_drop, List.length_drop, hl1, hl2, hlx, hZl]
      omega
    · simp only [List.append_assoc]
    · exact ⟨hk3.os, hk3.tape, hk3.output, hk3.size, fun k hk hne => hk3.block k hk (by omega)⟩)
  have HB := Lib.hid hcB
  have HA := Lib.hid hcA
  have HZ := Lib.hid hrz
  clear hcB hcA hrz hW3 hg3 hk3 hg2 hk2 hg1 hk1 hrow2 e3 hZ hZl hs2 hRs hl3 hcell hsplit hl1 hl2 hlx hi0 hz0 hz1 hz2 hO hx
  have hd : ¬ (1 : Int) = 0 := by decide
  have hd1 : ¬ (i : Int) = (l.length : Int) := by omega
  have hd2 : (l.length : Int) < (l.length : Int) + 1 := by omega
  have hb1 : ¬ G = i := by omega
  have hb2 : ¬ G = i + 1 := by omega
  have hb3 : ¬ l.length = i := by omega
  have hkk : (l.length : Int) + 1 - (i : Int) = ((l.length + 1 - i : Nat) : Int) := by omega
  have htn : ((i : Int) + 1).toNat = i + 1 := by omega
  unfold maxLen at hG63
  have hw1 : IntKind.i64.wrap ((i : Int) + 1) = (i : Int) + 1 := by rw [IntKind.wrap_i64]; omega
  have hb4 : (0 : Int) ≤ (i : Int) + 1 := by omega
  have hb5 : (i : Int) + 1 ≤ (l.length : Int) + 1 := by omega
  have hb6 : i ≤ l.length := by omega
  go_enter Tryz.func67, Tryz.ntmps67
  have hA1 := HA.out 3
  go_wp2_with (at_builtin; refine wpList_append_at _ rfl (.tmp 34) (.tmp 39) _ _ rfl _ _ rfl rfl (by first | exact HZ.out _ | (rw [hkk]; exact HZ.out _)) ?_)
  go_region_law (refine step_copy_at rfl (.tmp 50) (.tmp 53) 34 34 rfl (.slice (some ⟨w.heap.size, (i + 1) * 4, none⟩) (l.length + 1 - (i + 1)) (G - (i + 1))) (.slice (some ⟨g, i * 4, none⟩) (l.length - i) (l.length - i)) (by simp [Act.eval, Act.put]) (by simp [Act.eval, Act.put]) (HB.out _) ?_)
  go_wp2_with fail
  go_ret
  exact HF.out
end Go.Proofs.YtccigjelbnjcoaaGreatDoor.RefsC
namespace Go.Proofs.YtccigjelbnjcoaaGreatDoor.RefsC
set_option linter.unusedVariables false
open Go.RowKit Go.Proofs.YtccigjelbnjcoaaGreatDoor.NumC
open Go.Proofs.YtccigjelbnjcoaaGreatDoor.TreeC (addr_add0 addr_add Kept Kept.refl)
set_option maxHeartbeats 2000000 in
set_option maxRecDepth 100000 in
theorem cinsert_shift (B g c : Nat) (l : List Rc) (i : Nat) (x : Rc) (vb : Nat) (w : World) (hl : l.length ≤ 100000) (hi : i < l.length) (hc : l.length + 1 ≤ c) (hO : OS w B (.slice (some ⟨g, 0, none⟩) l.length c) l) (hx : RBox w vb x) (hne : vb ≠ g) :
    Calls Tryz.prog 67 #[.slice (some ⟨g, 0, none⟩) l.length c, .int .i64 (i : Nat), .slice (some ⟨vb, 0, none⟩) 1 1] w (InPost B (.slice (some ⟨g, 0, none⟩) l.length c) (l.take i ++ x :: l.drop i) w) := by
  have hcell := fun (j : Nat) (u : Value) (h : (rcells l)[j]? = some u) => by
    have := World.ownsRow.cells hO (g := g) rfl j u h
    rwa [addr_add0] at this
  have hsplit : rcells l = rcells (l.take i) ++ rcells (l.drop i) := by rw [← rcells_app, List.take_append_drop]
  have hl1 : (rcells (l.take i)).length = i * 4 := by rw [rcells_len, List.length_take, Nat.min_eq_left (by omega)]
  have hl2 : (rcells (l.drop i)).length = (l.length - i) * 4 := by rw [rcells_len, List.length_drop]
  have hlx : (rcells [x]).length = 4 := rfl
  obtain ⟨cur, hBg, hg, hcm, hsz, htk⟩ : ∃ cur, B ≤ g ∧ w.heap[g]? = some (.cells cur 27 (0, 0)) ∧ c ≤ maxLen ∧ cur.size = c * 4 ∧ cur.toList.take (l.length * 4) = rcells l := by
    rcases hO.2 with ⟨h, -⟩ | ⟨g1, cap, cur, e, h1, h2, h3, h4, h5, h6⟩
    · cases h
    · injection e with e1 e2 e3
      injection e1 with e1
      injection e1 with e1
      subst e1 e3
      exact ⟨cur, h1, h2, h4, h5, h6⟩
  have hgl : g < w.heap.size := (Array.getElem?_eq_some_iff.1 hg).1
  -- what lies there: what stands ahead of i, four cells more, what is behind
  have hclen : cur.toList.length = c * 4 := by rw [Array.length_toList, hsz]
  obtain ⟨F, hF⟩ : ∃ F, F = cur.toList.take ((i + 1) * 4) := ⟨_, rfl⟩
  obtain ⟨Z, hZ⟩ : ∃ Z, Z = cur.toList.drop ((i + 1) * 4) := ⟨_, rfl⟩
  have hFl : F.length = (i + 1) * 4 := by rw [hF, List.length_take, hclen]; omega
  have hZl : Z.length = (c - (i + 1)) * 4 := by rw [hZ, List.length_drop, hclen]; omega
  have hFZ : cur.toList = F ++ Z := by rw [hF, hZ, List.take_append_drop]
  have hF1 : F = rcells (l.take i) ++ F.drop (i * 4) := by
    have h1 : F.take (i * 4) = rcells (l.take i) := by
      rw [hF, List.take_take, Nat.min_eq_left (by omega)]
      have h2 := congrArg (List.take (i * 4)) htk
      rw [List.take_take, Nat.min_eq_left (by omega)] at h2
      rw [h2, hsplit, List.take_left' hl1]
    rw [← h1, List.take_append_drop]
  have hFd : (F.drop (i * 4)).length = 4 := by rw [List.length_drop, hFl]; omega
  have hcA := fun ty => run_copy4 w.drew 34 34 ty g ((i + 1) * 4) (l.length + 1 - (i + 1)) (c - (i + 1)) ⟨g, i * 4, none⟩ (l.length + 1 - i) (c - i) cur _ (rcells (l.drop i)) (l.length - i) Tryz.underlying34 hg (by simp only [Nat.min_def]; split <;> omega) hl2
    (fun j u hj => by rw [addr_add]; exact hcell _ u (by rw [hsplit, List.getElem?_append_right (by omega), hl1, Nat.add_sub_cancel_left]; exact hj)) (by rw [hl2, hsz]; omega) (rcells_one _)
  rw [hFZ, asm _ _ _ _ hFl] at hcA
  obtain ⟨W1, hW1⟩ : ∃ W1, W1 = w.drew.setRow g (F ++ (rcells (l.drop i) ++ Z.drop (rcells (l.drop i)).length)).toArray := ⟨_, rfl⟩
  rw [← hW1] at hcA
  have hg1 : W1.heap[g]? = some (.cells (F ++ (rcells (l.drop i) ++ Z.drop (rcells (l.drop i)).length)).toArray 27 (0, 0)) := by rw [hW1]; exact setRow_heap w.drew _ _ _ _ _ hg
  have hk1 : Kept g w W1 := by
    rw [hW1]
    exact ⟨rfl, rfl, rfl, by rw [setRow_size]; exact Nat.le_refl _, fun k hk hne => setRow_other _ _ _ _ hne⟩
  have hs1 : (F ++ (rcells (l.drop i) ++ Z.drop (rcells (l.drop i)).length)).toArray.size = c * 4 := by
    rw [List.size_toArray, List.length_append, List.length_append, List.length_drop, hFl, hl2, hZl]
    omega
  have e1 : (F ++ (rcells (l.drop i) ++ Z.drop (rcells (l.drop i)).length)).toArray.toList = rcells (l.take i) ++ (F.drop (i * 4) ++ (rcells (l.drop i) ++ Z.drop (rcells (l.drop i)).length)) := by
    rw [← List.append_assoc (rcells (l.take i)), ← hF1]
  clear hW1
  generalize (F ++ (rcells (l.drop i) ++ Z.drop (rcells (l.drop i)).length)).toArray = row1 at *
  have hcB := fun ty => run_copy4 W1 34 34 ty g (i * 4) (l.length + 1 - i) (c - i) ⟨vb, 0, none⟩ 1 1 row1 _ (rcells [x]) 1 Tryz.underlying34 hg1 (by simp only [Nat.min_def]; split <;> omega) rfl
    (fun j u hj => by rw [addr_add0]; exact hk1.cell hne (by have := hx.news j u hj; rwa [addr_add0] at this)) (by rw [hlx, hs1]; omega) (rcells_one _)
  rw [e1, asm _ _ _ _ hl1, hlx, List.drop_left' hFd] at hcB
  obtain ⟨W2, hW2⟩ : ∃ W2, W2 = W1.setRow g (rcells (l.take i) ++ (rcells [x] ++ (rcells (l.drop i) ++ Z.drop (rcells (l.drop i)).length))).toArray := ⟨_, rfl⟩
  rw [← hW2] at hcB
  have hg2 : W2.heap[g]? = some (.cells (rcells (l.take i) ++ (rcells [x] ++ (rcells (l.drop i) ++ Z.drop (rcells (l.drop i)).length))).toArray 27 (0, 0)) := by rw [hW2]; exact setRow_heap _ _ _ _ _ _ hg1
  have hk2 : Kept g w W2 := by
    rw [hW2]
    exact ⟨hk1.os, hk1.tape, hk1.output, by rw [setRow_size]; exact hk1.size, fun k hk hne => (setRow_other _ _ _ _ hne).trans (hk1.block k hk hne)⟩
  have HF : Hid (InPost B (.slice (some ⟨g, 0, none⟩) l.length c) (l.take i ++ x :: l.drop i) w (.returned (.slice (some ⟨g, 0, none⟩) (l.length + 1) c)) W2) := Lib.hid (by
    refine ⟨_, rfl, put_row (Y := Z.drop (rcells (l.drop i)).length) l i x (by omega) hBg hc hcm hg2 ?_ rfl, ?_, Or.inl rfl⟩
    · rw [List.size_toArray, List.length_append, List.length_append, List.length_append, List.length_drop, hl1, hl2, hlx, hZl]
      omega
    · exact ⟨hk2.os, hk2.tape, hk2.output, hk2.size, fun k hk hne => hk2.block k hk (fun e => hne (by rw [e]; rfl))⟩)
  have hov : ∀ lb cb, (callFunc 89 #[.slice (some ⟨vb, 0, none⟩) 1 1, .slice (some ⟨g, (i + 1) * 4, none⟩) lb cb]).run Tryz.prog w = .ok (.value (.bool false)) w := fun lb cb => by
    have hvs : w.shape? vb = some (27, 4) := by unfold RBox at hx; unfold World.shape?; simp [hx]
    have hgs : w.shape? g = some (27, c * 4) := by unfold World.shape?; simp [hg, hsz]
    have hvf : ∀ o, w.frozen? ⟨vb, o, none⟩ = false := fun o => by unfold RBox at hx; unfold World.frozen?; simp [hx]
    rw [run_callFunc_extern Tryz.func89 (by kernel_rfl) (by kernel_rfl) (by kernel_rfl) (e := Extern.SlicesOverlaps.overlaps #[34, 34] #[4]) (by kernel_rfl),
      Lib.run_overlaps_apart w 34 4 27 Tryz.underlying34 4 Tryz.sizeOf27 ⟨vb, 0, none⟩ ⟨g, (i + 1) * 4, none⟩ 1 1 lb cb hne _ _ 4 (c * 4) hvs hgs (by omega) (hvf 0) (hvf 4)]
    rfl
  have HB := Lib.hid hcB
  have HA := Lib.hid hcA
  clear hcB hcA hW2 hg2 hk2 hg1 hk1 e1 hs1 hFd hF1 hFZ hZl hFl hZ hF hclen hg hsz htk hcell hsplit hl1 hl2 hlx hO hx
  have hd : ¬ (1 : Int) = 0 := by decide
  have hd1 : ¬ (i : Int) = (l.length : Int) := by omega
  have hd2 : ¬ (c : Int) < (l.length : Int) + 1 := by omega
  have hb2 : ¬ c = i + 1 := by omega
  have hb3 : ¬ c = i := by omega
  have htn : ((i : Int) + 1).toNat = i + 1 := by omega
  have htm : ((l.length : Int) + 1).toNat = l.length + 1 := by omega
  unfold maxLen at hcm
  have hw1 : IntKind.i64.wrap ((i : Int) + 1) = (i : Int) + 1 := by rw [IntKind.wrap_i64]; omega
  have hb4 : (0 : Int) ≤ (i : Int) + 1 := by omega
  have hb5 : (i : Int) + 1 ≤ (l.length : Int) + 1 := by omega
  have hb6 : (i : Int) ≤ (l.length : Int) + 1 := by omega
  have hb7 : (l.length : Int) + 1 ≤ (c : Int) := by omega
  have hB1 := HB.out 3
  go_enter Tryz.func67, Tryz.ntmps67
  go_wp2_with (simp only [hov])
  go_region_law (refine step_copy_at rfl (.tmp 73) (.tmp 76) 34 34 rfl (.slice (some ⟨g, (i + 1) * 4, none⟩) (l.length + 1 - (i + 1)) (c - (i + 1))) (.slice (some ⟨g, i * 4, none⟩) (l.length + 1 - i) (c - i)) (by simp [Act.eval, Act.put]) (by simp [Act.eval, Act.put]) (HA.out _) ?_)
  go_wp2_with fail
  go_ret
  exact HF.out
theorem cinsert (B : Nat) (v : Value) (l : List Rc) (i : Nat) (x : Rc) (vb : Nat) (w : World) (hi : i ≤ l.length) (hl : l.length ≤ 100000) (hO : OS w B v l) (hx : RBox w vb x) (hne : v.ownBlock ≠ some vb) (hB : B ≤ w.heap.size) :
    Calls Tryz.prog 67 #[v, .int .i64 (i : Nat), .slice (some ⟨vb, 0, none⟩) 1 1] w (InPost B v (l.take i ++ x :: l.drop i) w) := by
  by_cases he : i = l.length
  · subst he
    rw [List.take_length, List.drop_length]
    exact cinsert_end B v l x vb w hl hO hx hB
  · have hcases : ∃ g c, v = .slice (some ⟨g, 0, none⟩) l.length c ∧ l.length ≤ c := by
      rcases hO.2 with ⟨h1, h2⟩ | ⟨g, cap, cur, h1, -, -, h2, -⟩
      · omega
      · exact ⟨g, cap, h1, h2⟩
    obtain ⟨g, c, rfl, hc⟩ := hcases
    have hg : vb ≠ g := fun e => hne (by rw [e]; rfl)
    by_cases h2 : l.length = c
    · exact cinsert_grow B g c l i x vb w hl (by omega) h2 hO hx hB
    · exact cinsert_shift B g c l i x vb w hl (by omega) (by omega) hO hx hg
end Go.Proofs.YtccigjelbnjcoaaGreatDoor.RefsC
namespace Go.Proofs.YtccigjelbnjcoaaGreatDoor.RefsC
set_option linter.unusedVariables false
open Go.RowKit Go.Proofs.YtccigjelbnjcoaaGreatDoor.NumC
open Go.Proofs.YtccigjelbnjcoaaGreatDoor.TreeC (addr_add0 addr_add Kept Kept.refl eq_rect below_grown)
def notB (l : List Rc) (x : Rc) (i : Nat) : Bool := match l[i]? with
  | some y => !aheadB y x
  | none => true
theorem notB_some {l : List Rc} {x y : Rc} {i : Nat} (h : l[i]? = some y) : notB l x i = !aheadB y x := by unfold notB; rw [h]
theorem notB_mono {l : List Rc} (hS : Srt l) (x : Rc) : ∀ a b, a ≤ b → b < l.length → notB l x a = true → notB l x b = true := by
  intro a b hab hb h
  obtain ⟨y, hy⟩ := nth_some l a (by omega)
  obtain ⟨z, hz⟩ := nth_some l b hb
  rw [notB_some hy] at h
  rw [notB_some hz]
  by_cases e : a = b
  · subst e; rw [hy] at hz; cases hz; exact h
  · cases hzx : aheadB z x
    · rfl
    · have h1 : aheadB y z = true := by
        unfold Srt at hS
        have := List.pairwise_iff_getElem.1 hS a b (by omega) hb (by omega)
        rw [List.getElem?_eq_getElem (by omega)] at hy
        rw [List.getElem?_eq_getElem hb] at hz
        rwa [Option.some.inj hy, Option.some.inj hz] at this
      rw [ahead_trans h1 hzx] at h
      cases h
theorem eq_rc (x y : Rc) (W : World) : (binOp .eql 27 (.agg #[.int .i64 x.a, .int .i64 x.b, .int .i64 x.c, .int .i64 x.d]) (.agg #[.int .i64 y.a, .int .i64 y.b, .int .i64 y.c, .int .i64 y.d])).run Tryz.prog W = .ok (.bool (decide (x = y))) W := by
  have h := eq_rect x.a x.b x.c x.d y.a y.b y.c y.d W
  have e : decide (x.a = y.a ∧ x.b = y.b ∧ x.c = y.c ∧ x.d = y.d) = decide (x = y) := by
    rw [decide_eq_decide]
    constructor
    · obtain ⟨a, b, c, d⟩ := x; obtain ⟨a', b', c', d'⟩ := y
      rintro ⟨h1, h2, h3, h4⟩
      simp only at h1 h2 h3 h4
      rw [h1, h2, h3, h4]
    · rintro rfl; exact ⟨rfl, rfl, rfl, rfl⟩
  rw [← e]; exact h
def PutPost (B : Nat) (l : List Rc) (w : World) (e : Ending) (w' : World) : Prop := ∃ v', e = .returned v' ∧ OS w' B v' l ∧ Below B w w'
set_option maxHeartbeats 2000000 in
set_option maxRecDepth 100000 in
theorem cput (B : Nat) (v : Value) (l : List Rc) (x : Rc) (w : World) (hl : l.length ≤ 100000) (hS : Srt l) (hO : OS w B v l) (hB : B ≤ w.heap.size) :
    Calls Tryz.prog 51 #[v, .agg #[.int .i64 x.a, .int .i64 x.b, .int .i64 x.c, .int .i64 x.d], .func (.func 52) #[] #[]] w (PutPost B (putL l x) w) := by
  obtain ⟨A, c, rfl⟩ := hO.form
  have eg : ∀ args w, (callFunc 66 args).run Tryz.prog w = .ok (.enter 66 args) w := enters_of Tryz.func66 (by kernel_rfl) rfl
  have HO := Lib.hid hO
  have HS := Lib.hid hS
  clear hO hS
  go_enter Tryz.func51, Tryz.ntmps51
  go_wp2_with fail
  obtain ⟨W, hW⟩ : ∃ W, W = ((w.alloc (.cells #[.slice A l.length c] 34)).alloc (.cells #[.int .i64 x.a, .int .i64 x.b, .int .i64 x.c, .int .i64 x.d] 27)).alloc (.cells #[.func (.func 52) #[] #[]] 46) := ⟨_, rfl⟩
  rw [← hW]
  have hc1 : W.cell? ⟨w.heap.size, 0, none⟩ = some (.slice A l.length c) := by rw [hW]; simp [go_sem]
  have hc3 : W.cell? ⟨w.heap.size + 1 + 1, 0, none⟩ = some (.func (.func 52) #[] #[]) := by rw [hW]; simp [go_sem]
  have hc2 : RBox W (w.heap.size + 1) x := by
    rw [hW]
    have h := RBox.new (w.alloc (.cells #[.slice A l.length c] 34)) x
    rw [World.size_alloc] at h
    exact h.below ((Below.refl _ _).alloc (Nat.le_refl _) _) (by simp)
  have hbW : Below w.heap.size w W := by rw [hW]; exact (((Below.refl _ w).alloc (Nat.le_refl _) _).alloc (by simp) _).alloc (by simp; omega) _
  have hsW : W.heap.size = w.heap.size + 3 := by rw [hW]; simp
  clear hW
  have hOW := HO.out.below hbW
  have hr := hOW.rat.2
  have hcall := csearch 66 l.length (w.heap.size + 1 + 1) w.heap.size (w.heap.size + 1) (notB l x) W eg (by omega) (fun W' i hb hi => by
    obtain ⟨y, hy⟩ := nth_some l i hi
    have h := cput1 (w.heap.size + 1 + 1) w.heap.size (w.heap.size + 1) i l A c x y W' hy ((hb.cell (p := ⟨_, 0, none⟩) (by show w.heap.size + 1 + 1 < _; omega)).trans hc3) ((hb.cell (p := ⟨_, 0, none⟩) (by show w.heap.size < _; omega)).trans hc1) (hc2.below hb (by omega)) ((hr.below hb).mono hb.size) (by omega)
    rw [notB_some hy]; exact h) (notB_mono HS.out x)
  refine hcall.mono ?_
  clear hcall eg hr
  rintro e w5 ⟨k, rfl, hk, hk1, hk2, hb5⟩
  have hpl : placeL l x = k := place_of (fun i hi => by
      obtain ⟨y, hy⟩ := nth_some l i (by omega)
      have := hk1 i hi
      rw [notB_some hy] at this
      exact ⟨y, hy, by simpa using this⟩) (by
      by_cases e : k = l.length
      · exact Or.inl e
      · obtain ⟨y, hy⟩ := nth_some l k (by omega)
        have := hk2 k (Nat.le_refl _) (by omega)
        rw [notB_some hy] at this
        exact Or.inr ⟨y, hy, by simpa using this⟩)
  have hput := put_at l x
  rw [hpl] at hput
  have hO5 := hOW.below hb5
  have hB5 : Below w.heap.size w w5 := hbW.trans (hb5.mono hbW.size)
  have d1 : w5.cell? ⟨w.heap.size, 0, none⟩ = some (.slice A l.length c) := (hb5.cell (p := ⟨_, 0, none⟩) (by show w.heap.size < _; omega)).trans hc1
  have hx5 := hc2.below hb5 (by omega)
  obtain ⟨x0, x1, x2, x3⟩ := hx5.cells
  have hs5 : w.heap.size + 3 ≤ w5.heap.size := by have := hb5.size; omega
  have HO5 := Lib.hid hO5
  have HB5 := Lib.hid hB5
  clear hk1 hk2 hpl hb5 hO5 hB5 hx5 hc1 hc2 hc3 hbW hOW hsW
  have fin : ∀ (q : Nat), PutPost B l w (.returned (.slice A l.length c)) (w5.drewN q) := fun q => ⟨_, rfl, HO5.out.below ⟨rfl, rfl, rfl, Nat.le_refl _, fun _ _ => rfl⟩, below_drewN' (HB5.out.mono hB) q⟩
  have fin2 : ∀ (q : Nat) (e : Ending) (w' : World), InPost B (.slice A l.length c) (l.take k ++ x :: l.drop k) ((w5.drewN q).alloc (.cells #[.int .i64 x.a, .int .i64 x.b, .int .i64 x.c, .int .i64 x.d] 27)) e w' → PutPost B (l.take k ++ x :: l.drop k) w e w' := fun q e w' ⟨v', he, ho, hg, _⟩ =>
    ⟨v', he, ho, below_grown (w := w) (wr := (w5.drewN q).alloc _) ((below_drewN' (HB5.out.mono hB) q).alloc (by show B ≤ w5.heap.size; omega) _) (by rw [World.size_alloc]; show B ≤ w5.heap.size + 1; omega) hg (fun j hj => (HO5.out.lt j hj).1)⟩
  have ins : ∀ (q : Nat), Calls Tryz.prog 67 #[.slice A l.length c, .int .i64 (k : Nat), .slice (some ⟨w5.heap.size, 0, none⟩) 1 1] ((w5.drewN q).alloc (.cells #[.int .i64 x.a, .int .i64 x.b, .int .i64 x.c, .int .i64 x.d] 27)) (InPost B (.slice A l.length c) (l.take k ++ x :: l.drop k) ((w5.drewN q).alloc (.cells #[.int .i64 x.a, .int .i64 x.b, .int .i64 x.c, .int .i64 x.d] 27))) := fun q =>
    cinsert B _ l k x w5.heap.size _ hk hl ((HO5.out.below (w' := w5.drewN q) ⟨rfl, rfl, rfl, Nat.le_refl _, fun _ _ => rfl⟩).below ((Below.refl _ _).alloc (Nat.le_refl _) _)) (RBox.new (w5.drewN q) x) (fun e => absurd (HO5.out.lt _ e).2 (Nat.lt_irrefl _)) (by rw [World.size_alloc]; show B ≤ w5.heap.size + 1; omega)
  have HF := Lib.hid fin
  have HF2 := Lib.hid fin2
  have HI := Lib.hid ins
  clear fin fin2 ins
  by_cases hlt : k < l.length
  · have hd : (k : Int) < (l.length : Int) := by omega
    obtain ⟨y, hy⟩ := nth_some l k hlt
    obtain ⟨g, o, rfl, hg, c0, c1, c2, c3⟩ := HO5.out.rat.2.nth k y hy
    have eN := eq_rc y x
    rw [hy] at hput
    by_cases hxy : y = x
    · rw [decide_eq_true hxy] at eN
      have HP : Hid (putL l x = l) := Lib.hid (by rw [hput, if_pos (by rw [hxy])])
      clear hxy hput hy
      go_wp2_with fail
      go_quiet (fail)
      go_wp2_with fail
      go_ret
      rw [HP.out]
      exact HF.out _
    · rw [decide_eq_false hxy] at eN
      have HP : Hid (putL l x = l.take k ++ x :: l.drop k) := Lib.hid (by rw [hput, if_neg (fun e => hxy (Option.some.inj e))])
      clear hxy hput hy
      go_wp2_with fail
      go_quiet (fail)
      go_wp2_with fail
      refine (HI.out _).mono ?_
      intro e w6 hp
      have H6 := Lib.hid (HF2.out _ _ _ hp)
      obtain ⟨v6, rfl, -⟩ := hp
      go_wp2_with fail
      go_ret
      rw [HP.out]
      exact H6.out
  · have hd : ¬ (k : Int) < (l.length : Int) := by omega
    have HP : Hid (putL l x = l.take k ++ x :: l.drop k) := Lib.hid (by rw [hput, if_neg (by rw [List.getElem?_eq_none (by omega)]; intro e; cases e)])
    clear hput
    go_wp2_with fail
    go_quiet (fail)
    go_wp2_with fail
    refine (HI.out _).mono ?_
    intro e w6 hp
    have H6 := Lib.hid (HF2.out _ _ _ hp)
    obtain ⟨v6, rfl, -⟩ := hp
    go_wp2_with fail
    go_ret
    rw [HP.out]
    exact H6.out
end Go.Proofs.YtccigjelbnjcoaaGreatDoor.RefsC
namespace Go.Proofs.YtccigjelbnjcoaaGreatDoor.RefsC
set_option linter.unusedVariables false
open Go.RowKit Go.Proofs.YtccigjelbnjcoaaGreatDoor.NumC Go.Proofs.YtccigjelbnjcoaaGreatDoor.LexC Go.Proofs.YtccigjelbnjcoaaGreatDoor.TreeC
def GIn (w : World) (B : Nat) (a : Nd) (l : List Rc) (i : Nat) (wr : World) (v : Value) : Prop := ∃ m, OS wr B v m ∧ Srt m ∧ m.length + (a.kids.drop i).size ≤ l.length + a.kids.size ∧ Below B w wr ∧ gathF (a.kids.drop i) m = gathF a.kids l
set_option maxHeartbeats 2000000 in
set_option maxRecDepth 100000 in
theorem cgathered (N : Nat) : ∀ (a : Nd) (A : Option Addr) (c : Nat) (v : Value) (l : List Rc) (B : Nat) (w : World), a.size ≤ N → l.length + a.size ≤ 100000 → Srt l → OS w B v l → B ≤ w.heap.size → KidsAt w (fun g => g < B) a.kids A →
    Calls Tryz.prog 29 #[v, .agg #[.int .i64 a.f.k, .int .i64 a.f.vk, .int .i64 a.f.vn, .string a.f.vs, .int .i64 a.f.r1, .int .i64 a.f.r2, .int .i64 a.f.r3, .int .i64 a.f.r4, .string a.f.op, .slice A a.kids.len c]] w (PutPost B (gathN l a) w) := by
  induction N with
  | zero => intro a A c v l B w h; exact absurd h (by unfold Nd.size; omega)
  | succ N ih =>
    intro a A c v l B w hN hl hS hO hB hK
    have bW : Below w.heap.size w (w.alloc (.cells #[.int .i64 a.f.k, .int .i64 a.f.vk, .int .i64 a.f.vn, .string a.f.vs, .int .i64 a.f.r1, .int .i64 a.f.r2, .int .i64 a.f.r3, .int .i64 a.f.r4, .string a.f.op, .slice A a.kids.len c] 30)) := (Below.refl _ _).alloc (Nat.le_refl _) _
    have L1 : NLoc (w.alloc (.cells #[.int .i64 a.f.k, .int .i64 a.f.vk, .int .i64 a.f.vn, .string a.f.vs, .int .i64 a.f.r1, .int .i64 a.f.r2, .int .i64 a.f.r3, .int .i64 a.f.r4, .string a.f.op, .slice A a.kids.len c] 30)) w.heap.size a.f A a.kids.len c := ⟨heap_alloc_new _ _⟩
    have hO1 := hO.below bW
    have hs1 : ((w.alloc (.cells #[.int .i64 a.f.k, .int .i64 a.f.vk, .int .i64 a.f.vn, .string a.f.vs, .int .i64 a.f.r1, .int .i64 a.f.r2, .int .i64 a.f.r3, .int .i64 a.f.r4, .string a.f.op, .slice A a.kids.len c] 30))).heap.size = w.heap.size + 1 := by simp
    have HK1 := Lib.hid (kids_below hK (bW.mono hB) hB)
    obtain ⟨vA, vc, rfl⟩ := hO.form
    have HS := Lib.hid hS
    clear hO hK hS
    have HIH := Lib.hid ih
    clear ih
    obtain ⟨d0, d1, d2, d3, d4, d5, d6, d7, d8, d9, -⟩ := L1.cells
    have HG : Hid (gathN l a = if a.f.k = 2 then putL l ⟨a.f.r1, a.f.r2, a.f.r1, a.f.r2⟩ else if a.f.k = 3 then putL l ⟨a.f.r1, a.f.r2, a.f.r3, a.f.r4⟩ else gathF a.kids l) := Lib.hid rfl
    generalize gathN l a = R at *
    have HO1 := Lib.hid hO1
    have HBW := Lib.hid (bW.mono hB)
    have hBs : B ≤ (w.alloc (.cells #[.int .i64 a.f.k, .int .i64 a.f.vk, .int .i64 a.f.vn, .string a.f.vs, .int .i64 a.f.r1, .int .i64 a.f.r2, .int .i64 a.f.r3, .int .i64 a.f.r4, .string a.f.op, .slice A a.kids.len c] 30)).heap.size := by omega
    have h2s : a.size = 1 + a.kids.size := rfl
    have hkl := Fo.len_size a.kids
    clear hO1 bW L1
    by_cases e2 : a.f.k = 2
    · have t2 : (a.f.k == 2) = true := by simp [e2]
      have HR : Hid (R = putL l ⟨a.f.r1, a.f.r2, a.f.r1, a.f.r2⟩) := Lib.hid (by rw [HG.out, if_pos e2])
      clear HG e2
      go_enter Tryz.func29, Tryz.ntmps29
      go_wp2_with fail
      generalize (w.alloc (.cells #[.int .i64 a.f.k, .int .i64 a.f.vk, .int .i64 a.f.vn, .string a.f.vs, .int .i64 a.f.r1, .int .i64 a.f.r2, .int .i64 a.f.r3, .int .i64 a.f.r4, .string a.f.op, .slice A a.kids.len c] 30)) = W at *
      refine (cput B _ l ⟨a.f.r1, a.f.r2, a.f.r1, a.f.r2⟩ _ (by omega) HS.out HO1.out hBs).mono ?_
      rintro e w2 ⟨v2, rfl, ho2, hb2⟩
      have HF := Lib.hid (show PutPost B R w (.returned v2) w2 from ⟨v2, rfl, by rw [HR.out]; exact ho2, HBW.out.trans hb2⟩)
      clear ho2 hb2 d0 d1 d2 d3 d4 d5 d6 d7 d8 d9
      go_wp2_with fail
      go_ret
      exact HF.out
    · have t2 : (a.f.k == 2) = false := by simp [e2]
      by_cases e3 : a.f.k = 3
      · have t3 : (a.f.k == 3) = true := by simp [e3]
        have HR : Hid (R = putL l ⟨a.f.r1, a.f.r2, a.f.r3, a.f.r4⟩) := Lib.hid (by rw [HG.out, if_neg e2, if_pos e3])
        clear HG e2 e3
        go_enter Tryz.func29, Tryz.ntmps29
        go_wp2_with fail
        generalize (w.alloc (.cells #[.int .i64 a.f.k, .int .i64 a.f.vk, .int .i64 a.f.vn, .string a.f.vs, .int .i64 a.f.r1, .int .i64 a.f.r2, .int .i64 a.f.r3, .int .i64 a.f.r4, .string a.f.op, .slice A a.kids.len c] 30)) = W at *
        refine (cput B _ l ⟨a.f.r1, a.f.r2, a.f.r3, a.f.r4⟩ _ (by omega) HS.out HO1.out hBs).mono ?_
        rintro e w2 ⟨v2, rfl, ho2, hb2⟩
        have HF := Lib.hid (show PutPost B R w (.returned v2) w2 from ⟨v2, rfl, by rw [HR.out]; exact ho2, HBW.out.trans hb2⟩)
        clear ho2 hb2 d0 d1 d2 d3 d4 d5 d6 d7 d8 d9
        go_wp2_with fail
        go_ret
        exact HF.out
      · have t3 : (a.f.k == 3) = false := by simp [e3]
        have HR : Hid (R = gathF a.kids l) := Lib.hid (by rw [HG.out, if_neg e2, if_neg e3])
        clear HG e2 e3
        go_enter Tryz.func29, Tryz.ntmps29
        go_wp2_with fail
        generalize (w.alloc (.cells #[.int .i64 a.f.k, .int .i64 a.f.vk, .int .i64 a.f.vn, .string a.f.vs, .int .i64 a.f.r1, .int .i64 a.f.r2, .int .i64 a.f.r3, .int .i64 a.f.r4, .string a.f.op, .slice A a.kids.len c] 30)) = W at *
        have H0 : Hid (GIn w B a l 0 W (.slice vA l.length vc)) := Lib.hid ⟨l, HO1.out, HS.out, by rw [Fo.drop_zero]; omega, HBW.out, by rw [Fo.drop_zero]⟩
        clear d0 d1 d2 d3 d4 d5 d6 d7 d8 d9 HO1 HS
        go_loopw [0, 29] (fun lv iv wr => ∃ i : Nat, i ≤ a.kids.len ∧ iv = .int .i64 i ∧ Hid (GIn w B a l i wr lv) ∧ Hid (Below B W wr)) (fun _ iv _ => a.kids.len - (intOf iv).toNat)
        case atStart => exact ⟨0, Nat.zero_le _, rfl, H0, Lib.hid (Below.refl _ _)⟩
        case round =>
          clear H0
          obtain ⟨i, hi, rfl, HR2, HB2⟩ := hrel
          obtain ⟨m, ho, hms, hml, hmb, hmg⟩ := HR2.out
          obtain ⟨mA, mc, rfl⟩ := ho.form
          have hsz := hmb.size
          by_cases hlt : i < a.kids.len
          · have hd1 : (i : Int) < (a.kids.len : Int) := by omega
            obtain ⟨ga, o, rfl, hrow⟩ := kids_row (kids_below HK1.out HB2.out hBs) hlt
            obtain ⟨A2, c2, hk2, hp, f0, f1, f2, f3, f4, f5, f6, f7, f8, f9⟩ := RowAt.nth a.kids ga o i hrow hlt
            have hn1 := Fo.nth_size a.kids i hlt
            have hn2 := Fo.size_drop a.kids i hlt
            have hbX : Below wr.heap.size wr (wr.alloc (.cells #[.int .i64 (a.kids.nth i).f.k, .int .i64 (a.kids.nth i).f.vk, .int .i64 (a.kids.nth i).f.vn, .string (a.kids.nth i).f.vs, .int .i64 (a.kids.nth i).f.r1, .int .i64 (a.kids.nth i).f.r2, .int .i64 (a.kids.nth i).f.r3, .int .i64 (a.kids.nth i).f.r4, .string (a.kids.nth i).f.op, .slice A2 (a.kids.nth i).kids.len c2] 30)) := (Below.refl _ _).alloc (Nat.le_refl _) _
            have hBr : B ≤ wr.heap.size := Nat.le_trans hBs HB2.out.size
            have HI := Lib.hid (HIH.out (a.kids.nth i) A2 c2 (.slice mA m.length mc) m B (wr.alloc (.cells #[.int .i64 (a.kids.nth i).f.k, .int .i64 (a.kids.nth i).f.vk, .int .i64 (a.kids.nth i).f.vn, .string (a.kids.nth i).f.vs, .int .i64 (a.kids.nth i).f.r1, .int .i64 (a.kids.nth i).f.r2, .int .i64 (a.kids.nth i).f.r3, .int .i64 (a.kids.nth i).f.r4, .string (a.kids.nth i).f.op, .slice A2 (a.kids.nth i).kids.len c2] 30)) (by omega) (by have : (a.kids.nth i).size = 1 + (a.kids.nth i).kids.size := rfl; omega) hms (ho.below hbX) (by rw [World.size_alloc]; omega) (kids_below hk2 (hbX.mono hBr) hBr))
            have HST : Hid (∀ (e : Ending) (w2 : World), PutPost B (gathN m (a.kids.nth i)) (wr.alloc (.cells #[.int .i64 (a.kids.nth i).f.k, .int .i64 (a.kids.nth i).f.vk, .int .i64 (a.kids.nth i).f.vn, .string (a.kids.nth i).f.vs, .int .i64 (a.kids.nth i).f.r1, .int .i64 (a.kids.nth i).f.r2, .int .i64 (a.kids.nth i).f.r3, .int .i64 (a.kids.nth i).f.r4, .string (a.kids.nth i).f.op, .slice A2 (a.kids.nth i).kids.len c2] 30)) e w2 → ∃ v2, e = .returned v2 ∧ GIn w B a l (i + 1) w2 v2 ∧ Below B W w2) := Lib.hid (fun e w2 ⟨v2, he, ho2, hb2⟩ =>
              ⟨v2, he, ⟨_, ho2, gathN_srt _ _ hms, by have := gathN_len (a.kids.nth i) m; have h9 : (a.kids.nth i).size = 1 + (a.kids.nth i).kids.size := rfl; omega, hmb.trans ((hbX.mono hBr).trans hb2), by rw [← gath_drop a.kids i hlt]; exact hmg⟩, HB2.out.trans ((hbX.mono hBr).trans hb2)⟩)
            clear hrow hk2 hn1 hn2 hbX ho hms hml hmb hmg HR2 HIH
            go_wp2_with fail
            refine HI.out.mono ?_
            intro e w2 hp2
            obtain ⟨v2, rfl, h1, h2⟩ := HST.out _ _ hp2
            have H1 := Lib.hid h1
            have H2 := Lib.hid h2
            clear hp2 h1 h2 HST HI HB2 f0 f1 f2 f3 f4 f5 f6 f7 f8 f9
            go_wp2_with fail
            go_roundw
            case rel => exact ⟨i + 1, by omega, by go_num, H1, H2⟩
            case measure => simp [intOf]; omega
          · have hd1 : ¬ (i : Int) < (a.kids.len : Int) := by omega
            rw [Fo.drop_len a.kids i (by omega)] at hmg
            have HF := Lib.hid (show PutPost B R w (.returned (.slice mA m.length mc)) wr from ⟨_, rfl, by rw [HR.out, ← hmg]; exact ho, hmb⟩)
            clear ho hms hml hmb hmg HR2 HIH
            go_wp2_with fail
            go_ret
            exact HF.out
def ofL (a : Nd) : List Rc := if goodT fitsB a = true then refsL a else []
theorem ofL_len (a : Nd) : (ofL a).length ≤ 2000 := by
  unfold ofL
  split
  · rename_i h
    rw [← gath_good h]
    have := gathN_len a []
    have := good_size h
    simp only [List.length_nil] at *
    omega
  · exact Nat.zero_le _
set_option maxHeartbeats 2000000 in
set_option maxRecDepth 100000 in
theorem cOf (a : Nd) (A : Option Addr) (c : Nat) (w : World) (hsm : a.size ≤ 1000000) (hll : LexLib w) (hK : KidsAt w (fun g => g < w.heap.size) a.kids A) :
    Calls Tryz.prog 10 #[.agg #[.int .i64 a.f.k, .int .i64 a.f.vk, .int .i64 a.f.vn, .string a.f.vs, .int .i64 a.f.r1, .int .i64 a.f.r2, .int .i64 a.f.r3, .int .i64 a.f.r4, .string a.f.op, .slice A a.kids.len c]] w (PutPost w.heap.size (ofL a) w) := by
  have bW : Below w.heap.size w (w.alloc (.cells #[.int .i64 a.f.k, .int .i64 a.f.vk, .int .i64 a.f.vn, .string a.f.vs, .int .i64 a.f.r1, .int .i64 a.f.r2, .int .i64 a.f.r3, .int .i64 a.f.r4, .string a.f.op, .slice A a.kids.len c] 30)) := (Below.refl _ _).alloc (Nat.le_refl _) _
  have L1 : NLoc (w.alloc (.cells #[.int .i64 a.f.k, .int .i64 a.f.vk, .int .i64 a.f.vn, .string a.f.vs, .int .i64 a.f.r1, .int .i64 a.f.r2, .int .i64 a.f.r3, .int .i64 a.f.r4, .string a.f.op, .slice A a.kids.len c] 30)) w.heap.size a.f A a.kids.len c := ⟨heap_alloc_new _ _⟩
  have hcall := cGood fitsB fits_all a A c (w.alloc (.cells #[.int .i64 a.f.k, .int .i64 a.f.vk, .int .i64 a.f.vn, .string a.f.vs, .int .i64 a.f.r1, .int .i64 a.f.r2, .int .i64 a.f.r3, .int .i64 a.f.r4, .string a.f.op, .slice A a.kids.len c] 30)) hsm (hll.below bW) (below_row hK bW)
  have HK := Lib.hid hK
  clear hK
  cases hgd : goodT fitsB a
  · rw [hgd] at hcall
    have HL : Hid (ofL a = []) := Lib.hid (by unfold ofL; rw [hgd]; rfl)
    clear hgd
    obtain ⟨d0, d1, d2, d3, d4, d5, d6, d7, d8, d9, -⟩ := L1.cells
    go_enter Tryz.func10, Tryz.ntmps10
    go_wp2_with fail
    refine hcall.mono ?_; rintro e w2 ⟨rfl, hb2⟩
    have HB := Lib.hid (bW.trans (hb2.mono bW.size))
    clear d0 d1 d2 d3 d4 d5 d6 d7 d8 d9 hb2 hcall L1 bW
    go_wp2_with fail
    go_ret
    exact ⟨_, rfl, by rw [HL.out]; exact OS.nil _ _, HB.out⟩
  · rw [hgd] at hcall
    have HL : Hid (ofL a = gathN [] a) := Lib.hid (by unfold ofL; rw [if_pos hgd, gath_good hgd])
    have hs2 := good_size hgd
    clear hgd
    obtain ⟨d0, d1, d2, d3, d4, d5, d6, d7, d8, d9, -⟩ := L1.cells
    go_enter Tryz.func10, Tryz.ntmps10
    go_wp2_with fail
    refine hcall.mono ?_; rintro e w2 ⟨rfl, hb2⟩
    have L2 := L1.kept (Kept.of hb2) (Nat.ne_of_lt L1.lt)
    have hB2 := bW.trans (hb2.mono bW.size)
    have HI := Lib.hid (cgathered 2000 a A c (.slice none 0 0) [] w.heap.size w2 hs2 (by simp only [List.length_nil]; omega) srt_nil (OS.nil _ _) hB2.size (kids_below HK.out hB2 (Nat.le_refl _)))
    have HB := Lib.hid hB2
    clear d0 d1 d2 d3 d4 d5 d6 d7 d8 d9 hb2 hcall L1 bW hB2
    obtain ⟨d0, d1, d2, d3, d4, d5, d6, d7, d8, d9, -⟩ := L2.cells
    go_wp2_with fail
    refine HI.out.mono ?_
    rintro e w3 ⟨v3, rfl, ho3, hb3⟩
    have HF := Lib.hid (show PutPost w.heap.size (ofL a) w (.returned v3) w3 from ⟨v3, rfl, by rw [HL.out]; exact ho3, HB.out.trans hb3⟩)
    clear ho3 hb3 HI d0 d1 d2 d3 d4 d5 d6 d7 d8 d9
    go_wp2_with fail
    go_ret
    exact HF.out
end Go.Proofs.YtccigjelbnjcoaaGreatDoor.RefsC
namespace Go.Proofs.YtccigjelbnjcoaaGreatDoor.RefsC
set_option linter.unusedVariables false
open Go.RowKit Go.Proofs.YtccigjelbnjcoaaGreatDoor.NumC Go.Proofs.YtccigjelbnjcoaaGreatDoor.LexC Go.Proofs.YtccigjelbnjcoaaGreatDoor.TreeC
def w8N : Nd := (parseL ({ data := #[65, 49, 43, 83, 85, 77, 40, 65, 49, 58, 66, 50, 41, 43, 65, 49] } : ByteArray).data.toList).nd
theorem w8_parse : parseL ({ data := #[65, 49, 43, 83, 85, 77, 40, 65, 49, 58, 66, 50, 41, 43, 65, 49] } : ByteArray).data.toList = ⟨w8N, 0, 0⟩ := by kernel_rfl
def w8L : List Rc := [⟨1, 1, 1, 1⟩, ⟨1, 1, 2, 2⟩]
theorem w8_of : ofL w8N = w8L := by kernel_rfl
theorem w8_size : w8N.size = 6 := by kernel_rfl
theorem w8_cells : cellsL w8L = 4 := by kernel_rfl
theorem w8_hit : hitsL w8L 2 2 = true := by kernel_rfl
theorem w8_miss : hitsL w8L 3 1 = false := by kernel_rfl
set_option maxRecDepth 100000 in
set_option maxHeartbeats 2000000 in
theorem cwakes8 (w : World) (hl : LexLib w) (hg : ErrT w) : Calls Tryz.prog 8 #[] w fun e w' => e = .returned (.bool true) ∧ Below w.heap.size w w' := by
  have HL := Lib.hid hl
  have HG := Lib.hid hg
  clear hl hg
  go_enter Tryz.func8, Tryz.ntmps8
  go_wp2_with fail
  refine (cParse { data := #[65, 49, 43, 83, 85, 77, 40, 65, 49, 58, 66, 50, 41, 43, 65, 49] } w (by decide) HL.out HG.out).mono ?_
  rw [w8_parse]
  rintro e w1 ⟨v, rfl, hb1, A, c, rfl, hK⟩
  have hK1 := hK.keep (Q := fun g => g < w1.heap.size) (y := w1.heap.size) (Kept.refl _ _) (fun g _ hl => ⟨by omega, hl⟩)
  have b2 : Below w1.heap.size w1 (w1.alloc (.cells #[.int .i64 w8N.f.k, .int .i64 w8N.f.vk, .int .i64 w8N.f.vn, .string w8N.f.vs, .int .i64 w8N.f.r1, .int .i64 w8N.f.r2, .int .i64 w8N.f.r3, .int .i64 w8N.f.r4, .string w8N.f.op, .slice A w8N.kids.len c] 30)) := (Below.refl _ _).alloc (Nat.le_refl _) _
  have hcall := cOf w8N A c (w1.alloc (.cells #[.int .i64 w8N.f.k, .int .i64 w8N.f.vk, .int .i64 w8N.f.vn, .string w8N.f.vs, .int .i64 w8N.f.r1, .int .i64 w8N.f.r2, .int .i64 w8N.f.r3, .int .i64 w8N.f.r4, .string w8N.f.op, .slice A w8N.kids.len c] 30)) (by rw [w8_size]; decide) ((HL.out.below hb1).below b2) (below_row hK1 b2)
  rw [w8_of] at hcall
  have L1 : NLoc (w1.alloc (.cells #[.int .i64 w8N.f.k, .int .i64 w8N.f.vk, .int .i64 w8N.f.vn, .string w8N.f.vs, .int .i64 w8N.f.r1, .int .i64 w8N.f.r2, .int .i64 w8N.f.r3, .int .i64 w8N.f.r4, .string w8N.f.op, .slice A w8N.kids.len c] 30)) w1.heap.size w8N.f A w8N.kids.len c := ⟨heap_alloc_new _ _⟩
  have hB1 : Below w.heap.size w (w1.alloc (.cells #[.int .i64 w8N.f.k, .int .i64 w8N.f.vk, .int .i64 w8N.f.vn, .string w8N.f.vs, .int .i64 w8N.f.r1, .int .i64 w8N.f.r2, .int .i64 w8N.f.r3, .int .i64 w8N.f.r4, .string w8N.f.op, .slice A w8N.kids.len c] 30)) := hb1.alloc hb1.size _
  obtain ⟨d0, d1, d2, d3, d4, d5, d6, d7, d8, d9, -⟩ := L1.cells
  unfold nodeV
  have HB1 := Lib.hid hB1
  clear hK hK1 hb1 b2 L1 hB1
  go_wp2_with fail
  refine hcall.mono ?_
  rintro e w2 ⟨v2, rfl, ho2, hb2⟩
  obtain ⟨A2, c2, rfl⟩ := ho2.form
  have hr2 := ho2.rat.2
  have hB2 := HB1.out.trans (hb2.mono HB1.out.size)
  have h1 := cCells w8L A2 c2 w2 (by decide) hr2
  rw [w8_cells] at h1
  have hlen : w8L.length = 2 := rfl
  rw [hlen] at h1 ⊢
  have HR2 := Lib.hid hr2
  have HB2 := Lib.hid hB2
  clear hcall d0 d1 d2 d3 d4 d5 d6 d7 d8 d9 ho2 hr2 hB2 hb2
  go_wp2_with fail
  refine h1.mono ?_
  rintro e w3 ⟨rfl, hb3⟩
  have hr3 := (HR2.out.below hb3).mono hb3.size
  have h2 := cHits w8L A2 c2 2 2 w3 (by decide) hr3
  rw [w8_hit, hlen] at h2
  have HR3 := Lib.hid hr3
  have HB3 := Lib.hid (HB2.out.trans (hb3.mono HB2.out.size))
  clear h1 hr3 hb3 HR2 HB2
  go_wp2_with fail
  refine h2.mono ?_
  rintro e w4 ⟨rfl, hb4⟩
  have h3 := cHits w8L A2 c2 3 1 w4 (by decide) ((HR3.out.below hb4).mono hb4.size)
  rw [w8_miss, hlen] at h3
  have HB4 := Lib.hid (HB3.out.trans (hb4.mono HB3.out.size))
  clear h2 hb4 HR3 HB3
  go_wp2_with fail
  refine h3.mono ?_
  rintro e w5 ⟨rfl, hb5⟩
  have HB5 := Lib.hid (HB4.out.trans (hb5.mono HB4.out.size))
  clear h3 hb5 HB4
  go_wp2_with fail
  go_ret
  exact ⟨rfl, HB5.out⟩
end Go.Proofs.YtccigjelbnjcoaaGreatDoor.RefsC
namespace Go.Proofs.YtccigjelbnjcoaaGreatDoor.RefsC
set_option linter.unusedVariables false
open Go.RowKit Go.Proofs.YtccigjelbnjcoaaGreatDoor.NumC
open Go.Proofs.YtccigjelbnjcoaaGreatDoor.TreeC (addr_add0 addr_add below_grown run_append_none0)
theorem run_OS (ty : TypeId) {u : World} {N M c : Nat} {v : Value} {l m : List Rc} {A : Option Addr} (ho : OS u N v l) (hr : RAt u M m A) (hN : N ≤ u.heap.size) (hl : l.length + m.length ≤ 200000) :
    ∃ v' u', (Builtin.append_ #[34, 34] ty #[v, .slice A m.length c]).run Tryz.prog u = .ok v' u' ∧ OS u' N v' (l ++ m) ∧ u.grownBy u' v.ownBlock ∧ (v'.ownBlock = v.ownBlock ∨ v'.ownBlock = some u.heap.size) := by
  obtain ⟨i0, hi0, hz0, hz1, hz2⟩ := info_parts rect_info
  cases A with
  | none =>
    have hm : m = [] := by
      rcases hr with h | ⟨g, o, e, -⟩
      · exact h
      · cases e
    subst hm
    exact ⟨v, u, run_append_none0 N 34 ty 27 i0 4 c Tryz.underlying34 hi0 v l.length (rcells l) ho, by rw [List.append_nil]; exact ho, ⟨rfl, rfl, rfl, Nat.le_refl _, fun _ _ _ => rfl⟩, Or.inl rfl⟩
  | some a =>
    have hnews : ∀ j w, (rcells m)[j]? = some w → u.cell? (a.add j) = some w := by
      by_cases hm : m = []
      · subst hm; intro j w h; cases h
      · obtain ⟨g, o, e, -, h⟩ := hr.cells hm
        injection e with e
        subst e
        intro j w hj
        rw [addr_add]; exact h j w hj
    obtain ⟨v', u', h1, h2, h3, -, h5⟩ := run_append_own_at (P := Tryz.prog) u N 34 ty 27 i0 _ 4 32 Tryz.underlying34 hi0 hz0 hz1 hz2 rfl (by decide) v l.length (rcells l) ho a m.length c (rcells m) (rcells_len m) hnews (rcells_one m) (by unfold maxLen; omega) (by omega) hN
    refine ⟨v', u', h1, ?_, h3, h5⟩
    unfold OS
    rw [rcells_app, List.length_append]; exact h2
def putOps : List Oper := [
  { dst := some 33, op := Op.buildSlice 34 0 #[], type := 34, pos := "ref.go:27", after := #[], guard := none },
  { dst := some 34, op := Op.move (Operand.tmp 0), type := 34, pos := "ref.go:27", after := #[], guard := none },
  { dst := some 35, op := Op.move (Operand.tmp 5), type := 3, pos := "ref.go:27", after := #[], guard := none },
  { dst := some 36, op := Op.slice 34 (Operand.tmp 34) none (some (Operand.tmp 35)) none, type := 34, pos := "ref.go:27", after := #[{ on := 1, ground := Ground.data }, { on := 2, ground := Ground.data }], guard := none },
  { dst := some 37, op := Op.call { callee := Callee.builtin Builtin.append, args := #[Operand.tmp 33, Operand.tmp 36], argTypes := #[34, 34] }, type := 34, pos := "ref.go:27", after := #[{ on := 0, ground := Ground.data }, { on := 3, ground := Ground.data }], guard := none },
  { dst := some 38, op := Op.load 27 (Operand.tmp 3), type := 27, pos := "ref.go:27", after := #[], guard := none },
  { dst := some 39, op := Op.buildSlice 34 1 #[(0, Operand.tmp 38)], type := 34, pos := "ref.go:27", after := #[{ on := 5, ground := Ground.data }], guard := none },
  { dst := some 40, op := Op.call { callee := Callee.builtin Builtin.append, args := #[Operand.tmp 37, Operand.tmp 39], argTypes := #[34, 34] }, type := 34, pos := "ref.go:27", after := #[{ on := 4, ground := Ground.data }, { on := 6, ground := Ground.data }, { on := 4, ground := Ground.chain }], guard := none },
  { dst := some 41, op := Op.move (Operand.tmp 0), type := 34, pos := "ref.go:27", after := #[], guard := none },
  { dst := some 42, op := Op.move (Operand.tmp 5), type := 3, pos := "ref.go:27", after := #[], guard := none },
  { dst := some 43, op := Op.slice 34 (Operand.tmp 41) (some (Operand.tmp 42)) none none, type := 34, pos := "ref.go:27", after := #[{ on := 8, ground := Ground.data }, { on := 9, ground := Ground.data }], guard := none },
  { dst := some 44, op := Op.call { callee := Callee.builtin Builtin.append, args := #[Operand.tmp 40, Operand.tmp 43], argTypes := #[34, 34] }, type := 34, pos := "ref.go:27", after := #[{ on := 7, ground := Ground.data }, { on := 10, ground := Ground.data }, { on := 7, ground := Ground.chain }], guard := none },
  { dst := some 4, op := Op.assign (Operand.tmp 44), type := 34, pos := "ref.go:27", after := #[{ on := 11, ground := Ground.data }, { on := 11, ground := Ground.chain }, { on := 0, ground := Ground.phase }, { on := 1, ground := Ground.phase }, { on := 2, ground := Ground.phase }, { on := 3, ground := Ground.phase }, { on := 4, ground := Ground.phase }, { on := 5, ground := Ground.phase }, { on := 6, ground := Ground.phase }, { on := 7, ground := Ground.phase }, { on := 8, ground := Ground.phase }, { on := 9, ground := Ground.phase }, { on := 10, ground := Ground.phase }, { on := 11, ground := Ground.phase }], guard := none }]
structure PI (W : World) (l : List Rc) (A : Option Addr) (c b k : Nat) (x : Rc) (b0 b1 b2 b3 b4 b5 b6 b7 b8 b9 b10 b11 b12 : Bool) (v33 v34 v35 v36 v37 v38 v39 v40 v41 v42 v43 v44 v4 : Value) (u : World) : Prop where
  below : Below W.heap.size W u
  p0 : b0 = true → b4 = false → OS u W.heap.size v33 []
  p1 : b1 = true → v34 = .slice A l.length c
  p2 : b2 = true → v35 = .int .i64 (k : Nat)
  p3 : b3 = true → ∃ A' c', v36 = .slice A' k c' ∧ RAt W W.heap.size (l.take k) A'
  p4 : b4 = true → b7 = false → OS u W.heap.size v37 (l.take k)
  p5 : b5 = true → v38 = .agg #[.int .i64 x.a, .int .i64 x.b, .int .i64 x.c, .int .i64 x.d]
  p6 : b6 = true → b7 = false → ∃ j, v39 = .slice (some ⟨j, 0, none⟩) 1 1 ∧ RBox u j x ∧ W.heap.size ≤ j ∧ (b0 = true → b4 = false → v33.ownBlock ≠ some j) ∧ (b4 = true → v37.ownBlock ≠ some j)
  p7 : b7 = true → b11 = false → OS u W.heap.size v40 (l.take k ++ [x])
  p8 : b8 = true → v41 = .slice A l.length c
  p9 : b9 = true → v42 = .int .i64 (k : Nat)
  p10 : b10 = true → ∃ A' c', v43 = .slice A' (l.length - k) c' ∧ RAt W W.heap.size (l.drop k) A'
  p11 : b11 = true → OS u W.heap.size v44 (l.take k ++ [x] ++ l.drop k)
  p12 : b12 = true → b11 = true ∧ v4 = v44
  o7 : b7 = true → b4 = true ∧ b6 = true
  o11 : b11 = true → b7 = true
theorem PI.mono {W : World} {l : List Rc} {A : Option Addr} {c b k : Nat} {x : Rc} {b0 b1 b2 b3 b4 b5 b6 b7 b8 b9 b10 b11 b12 : Bool} {v33 v34 v35 v36 v37 v38 v39 v40 v41 v42 v43 v44 v4 : Value} {u u' : World} (G : PI W l A c b k x b0 b1 b2 b3 b4 b5 b6 b7 b8 b9 b10 b11 b12 v33 v34 v35 v36 v37 v38 v39 v40 v41 v42 v43 v44 v4 u) (hb : Below u.heap.size u u') : PI W l A c b k x b0 b1 b2 b3 b4 b5 b6 b7 b8 b9 b10 b11 b12 v33 v34 v35 v36 v37 v38 v39 v40 v41 v42 v43 v44 v4 u' :=
  { G with
    below := G.below.trans (hb.mono G.below.size)
    p0 := fun h h2 => (G.p0 h h2).below hb
    p4 := fun h h2 => (G.p4 h h2).below hb
    p6 := fun h h2 => by
      obtain ⟨j, e, hx, h3⟩ := G.p6 h h2
      exact ⟨j, e, hx.below hb hx.lt, h3⟩
    p7 := fun h h2 => (G.p7 h h2).below hb
    p11 := fun h => (G.p11 h).below hb }
theorem grown_box {u u' : World} {j : Nat} {x : Rc} {row : Option Nat} (h : RBox u j x) (hg : u.grownBy u' row) (hne : row ≠ some j) : RBox u' j x := (hg.block j h.lt (fun e => hne e.symm)).trans h
theorem box_rat {u : World} {j : Nat} {x : Rc} (h : RBox u j x) : RAt u u.heap.size [x] (some ⟨j, 0, none⟩) := by
  obtain ⟨c0, c1, c2, c3⟩ := h.cells
  refine Or.inr ⟨j, 0, rfl, h.lt, fun i y hy => ?_⟩
  cases i with
  | zero => cases hy; exact ⟨c0, c1, c2, c3⟩
  | succ i => cases hy
theorem rat_take {W : World} {M k : Nat} {l : List Rc} {A : Option Addr} (h : RAt W M l A) : RAt W M (l.take k) A := by
  rcases h with h | ⟨g, o, e, hg, h⟩
  · left; rw [h, List.take_nil]
  · refine Or.inr ⟨g, o, e, hg, fun i y hy => h i y ?_⟩
    rw [List.getElem?_take] at hy
    split at hy
    · exact hy
    · cases hy
theorem rat_drop {W : World} {M k g o : Nat} {l : List Rc} (h : RAt W M l (some ⟨g, o, none⟩)) : RAt W M (l.drop k) (some ⟨g, o + k * 4, none⟩) := by
  rcases h with h | ⟨g', o', e, hg, h⟩
  · left; rw [h, List.drop_nil]
  · injection e with e
    injection e with e1 e2
    subst e1 e2
    refine Or.inr ⟨g, o + k * 4, rfl, hg, fun i y hy => ?_⟩
    rw [List.getElem?_drop] at hy
    have := h _ y hy
    rwa [show o + (k + i) * 4 = o + k * 4 + i * 4 from by omega] at this
set_option maxHeartbeats 4000000 in
set_option maxRecDepth 100000 in
theorem put_region {W : World} {l : List Rc} {A : Option Addr} {c b k : Nat} {x : Rc} {z2 z6 z7 z8 z9 z10 z11 z12 z13 z14 z15 z16 z17 z18 z19 z20 z21 z22 z23 z24 z25 z26 z27 z28 z29 z30 z31 z32 v33 v34 v35 v36 v37 v38 v39 v40 v41 v42 v43 v44 v4 : Value} {Q : Exit → Act → World → Prop} (hl : l.length ≤ 100000) (hk : k ≤ l.length) (hc : l.length ≤ c) (hn : A = none → c = 0) (hA : ∀ a, A = some a → ∃ g o, a = ⟨g, o, none⟩) (hR : RAt W W.heap.size l A) (hB : RBox W b x)
    (hQ : ∀ (v33 v34 v35 v36 v37 v38 v39 v40 v41 v42 v43 v44 v4 : Value) (u : World), OS u W.heap.size v4 (l.take k ++ [x] ++ l.drop k) → Below W.heap.size W u → Q .normal ⟨#[.slice A l.length c, .agg #[.int .i64 x.a, .int .i64 x.b, .int .i64 x.c, .int .i64 x.d], z2, .pointer (some ⟨b, 0, none⟩), v4, .int .i64 (k : Nat), z6, z7, z8, z9, z10, z11, z12, z13, z14, z15, z16, z17, z18, z19, z20, z21, z22, z23, z24, z25, z26, z27, z28, z29, z30, z31, z32, v33, v34, v35, v36, v37, v38, v39, v40, v41, v42, v43, v44], []⟩ u) : (Code.region 6 putOps.toArray true).wp Tryz.prog Q ⟨#[.slice A l.length c, .agg #[.int .i64 x.a, .int .i64 x.b, .int .i64 x.c, .int .i64 x.d], z2, .pointer (some ⟨b, 0, none⟩), v4, .int .i64 (k : Nat), z6, z7, z8, z9, z10, z11, z12, z13, z14, z15, z16, z17, z18, z19, z20, z21, z22, z23, z24, z25, z26, z27, z28, z29, z30, z31, z32, v33, v34, v35, v36, v37, v38, v39, v40, v41, v42, v43, v44], []⟩ W := by
  have hs : W.drew.heap.size = W.heap.size := rfl
  have HR : Hid (RAt W.drew W.drew.heap.size l A) := Lib.hid hR
  have HB : Hid (RBox W.drew b x) := Lib.hid hB
  have HQ : Hid (∀ (v33 v34 v35 v36 v37 v38 v39 v40 v41 v42 v43 v44 v4 : Value) (u : World), OS u W.drew.heap.size v4 (l.take k ++ [x] ++ l.drop k) → Below W.drew.heap.size W.drew u → Q .normal ⟨#[.slice A l.length c, .agg #[.int .i64 x.a, .int .i64 x.b, .int .i64 x.c, .int .i64 x.d], z2, .pointer (some ⟨b, 0, none⟩), v4, .int .i64 (k : Nat), z6, z7, z8, z9, z10, z11, z12, z13, z14, z15, z16, z17, z18, z19, z20, z21, z22, z23, z24, z25, z26, z27, z28, z29, z30, z31, z32, v33, v34, v35, v36, v37, v38, v39, v40, v41, v42, v43, v44], []⟩ u) := Lib.hid (fun v33 v34 v35 v36 v37 v38 v39 v40 v41 v42 v43 v44 v4 u h1 h2 => hQ v33 v34 v35 v36 v37 v38 v39 v40 v41 v42 v43 v44 v4 u h1 ⟨h2.os, h2.tape, h2.output, h2.size, h2.block⟩)
  clear hR hB hQ hs
  refine region_inv (I := fun listed a u => ∃ (b0 b1 b2 b3 b4 b5 b6 b7 b8 b9 b10 b11 b12 : Bool) (v33 v34 v35 v36 v37 v38 v39 v40 v41 v42 v43 v44 v4 : Value), listed = #[b0, b1, b2, b3, b4, b5, b6, b7, b8, b9, b10, b11, b12] ∧ a = ⟨#[.slice A l.length c, .agg #[.int .i64 x.a, .int .i64 x.b, .int .i64 x.c, .int .i64 x.d], z2, .pointer (some ⟨b, 0, none⟩), v4, .int .i64 (k : Nat), z6, z7, z8, z9, z10, z11, z12, z13, z14, z15, z16, z17, z18, z19, z20, z21, z22, z23, z24, z25, z26, z27, z28, z29, z30, z31, z32, v33, v34, v35, v36, v37, v38, v39, v40, v41, v42, v43, v44], []⟩ ∧ PI W.drew l A c b k x b0 b1 b2 b3 b4 b5 b6 b7 b8 b9 b10 b11 b12 v33 v34 v35 v36 v37 v38 v39 v40 v41 v42 v43 v44 v4 u) (by kernel_rfl) (by kernel_rfl) ?_ ?_ ⟨false, false, false, false, false, false, false, false, false, false, false, false, false, v33, v34, v35, v36, v37, v38, v39, v40, v41, v42, v43, v44, v4, rfl, rfl, ?_⟩
  · intro listed i a u hsz hi hI
    generalize W.drew = W0 at *
    obtain ⟨b0, b1, b2, b3, b4, b5, b6, b7, b8, b9, b10, b11, b12, v33, v34, v35, v36, v37, v38, v39, v40, v41, v42, v43, v44, v4, rfl, rfl, G⟩ := hI
    have hlt : i < 13 := by
      have := ready_lt hsz hi
      obtain ⟨h, -⟩ := this
      simpa using h
    have hh : i = 0 ∨ i = 1 ∨ i = 2 ∨ i = 3 ∨ i = 4 ∨ i = 5 ∨ i = 6 ∨ i = 7 ∨ i = 8 ∨ i = 9 ∨ i = 10 ∨ i = 11 ∨ i = 12 := by omega
    clear hlt
    rcases hh with rfl | rfl | rfl | rfl | rfl | rfl | rfl | rfl | rfl | rfl | rfl | rfl | rfl
    · skip
      refine wpOp_list (o := { dst := some 33, op := Op.buildSlice 34 0 #[], type := 34, pos := "ref.go:27", after := #[], guard := none }) rfl fun Q1 hQ1 => ?_
      clear hi hsz
      have hb : Below u.heap.size u (u.alloc (.cells #[] 27)) := (Below.refl _ _).alloc (Nat.le_refl _) _
      have G2 := G.mono hb
      have GH := Lib.hid G
      clear G hb
      go_wp2_with fail
      replace G2 := Lib.hid G2
      exact hQ1.out _ _ ⟨true, _, _, _, _, _, _, _, _, _, _, _, _, _, _, _, _, _, _, _, _, _, _, _, _, _, rfl, rfl, { G2.out with
        p0 := fun _ _ => ⟨rfl, Or.inr ⟨_, 0, #[], rfl, GH.out.below.size, heap_alloc_new _ _, Nat.le_refl _, Nat.zero_le _, rfl, rfl⟩⟩
        p6 := fun h6 h7 => by
          obtain ⟨j, e, hx, hN, h1, h2⟩ := G2.out.p6 h6 h7
          obtain ⟨j', e', hx', -⟩ := GH.out.p6 h6 h7
          rw [e] at e'
          injection e' with e'
          injection e' with e'
          injection e' with e'
          exact ⟨j, e, hx, hN, fun _ _ e2 => by
            have e3 : u.heap.size = j := Option.some.inj e2
            have := hx'.lt
            omega, h2⟩ }⟩
    · skip
      refine wpOp_list (o := { dst := some 34, op := Op.move (Operand.tmp 0), type := 34, pos := "ref.go:27", after := #[], guard := none }) rfl fun Q1 hQ1 => ?_
      clear hi hsz
      go_wp2_with fail
      exact hQ1.out _ _ ⟨_, true, _, _, _, _, _, _, _, _, _, _, _, _, _, _, _, _, _, _, _, _, _, _, _, _, rfl, rfl, { G with p1 := fun _ => rfl }⟩
    · skip
      refine wpOp_list (o := { dst := some 35, op := Op.move (Operand.tmp 5), type := 3, pos := "ref.go:27", after := #[], guard := none }) rfl fun Q1 hQ1 => ?_
      clear hi hsz
      go_wp2_with fail
      exact hQ1.out _ _ ⟨_, _, true, _, _, _, _, _, _, _, _, _, _, _, _, _, _, _, _, _, _, _, _, _, _, _, rfl, rfl, { G with p2 := fun _ => rfl }⟩
    · skip
      have w1 : b1 = true := waits_of hi 1 (by kernel_rfl)
      have w2 : b2 = true := waits_of hi 2 (by kernel_rfl)
      have e1 := G.p1 w1
      have e2 := G.p2 w2
      subst e1 e2
      have hk1 : (k : Int) ≤ (l.length : Int) := by omega
      have hk2 : (k : Int) ≤ (c : Int) := by omega
      have GH := Lib.hid G
      clear G
      cases A with
      | none =>
        have hc0 := hn rfl
        subst hc0
        obtain rfl : k = 0 := by omega
        have hl0 : l.length = 0 := by omega
        have hl1 : l = [] := List.length_eq_zero_iff.1 hl0
        subst hl1
        refine wpOp_list (o := { dst := some 36, op := Op.slice 34 (Operand.tmp 34) none (some (Operand.tmp 35)) none, type := 34, pos := "ref.go:27", after := #[{ on := 1, ground := Ground.data }, { on := 2, ground := Ground.data }], guard := none }) rfl fun Q1 hQ1 => ?_
        clear hi hsz
        go_wp2_with fail
        exact hQ1.out _ _ ⟨_, _, _, true, _, _, _, _, _, _, _, _, _, _, _, _, _, _, _, _, _, _, _, _, _, _, rfl, rfl, { GH.out with p3 := fun _ => ⟨none, 0, rfl, Or.inl rfl⟩ }⟩
      | some a =>
        obtain ⟨g, o, rfl⟩ := hA a rfl
        refine wpOp_list (o := { dst := some 36, op := Op.slice 34 (Operand.tmp 34) none (some (Operand.tmp 35)) none, type := 34, pos := "ref.go:27", after := #[{ on := 1, ground := Ground.data }, { on := 2, ground := Ground.data }], guard := none }) rfl fun Q1 hQ1 => ?_
        clear hi hsz
        go_wp2_with fail
        exact hQ1.out _ _ ⟨_, _, _, true, _, _, _, _, _, _, _, _, _, _, _, _, _, _, _, _, _, _, _, _, _, _, rfl, rfl, { GH.out with p3 := fun _ => ⟨_, _, rfl, rat_take HR.out⟩ }⟩
    · skip
      have n4 : b4 = false := by obtain ⟨h1, h2⟩ := ready_lt hsz hi; exact h2
      have w0 : b0 = true := waits_of hi 0 (by kernel_rfl)
      have w3 : b3 = true := waits_of hi 3 (by kernel_rfl)
      have n7 : b7 = false := by
        cases e : b7
        · rfl
        · have := (G.o7 e).1; rw [n4] at this; cases this
      have n11 : b11 = false := by
        cases e : b11
        · rfl
        · have := G.o11 e; rw [n7] at this; cases this
      obtain ⟨A3, c3, e36, hr3⟩ := G.p3 w3
      subst e36
      have hkl : (l.take k).length = k := by rw [List.length_take, Nat.min_eq_left hk]
      refine wpOp_list (o := { dst := some 37, op := Op.call { callee := Callee.builtin Builtin.append, args := #[Operand.tmp 33, Operand.tmp 36], argTypes := #[34, 34] }, type := 34, pos := "ref.go:27", after := #[{ on := 0, ground := Ground.data }, { on := 3, ground := Ground.data }], guard := none }) rfl fun Q1 hQ1 => ?_
      clear hi hsz
      obtain ⟨v', u', h1, h2, h3, h4⟩ := run_OS (c := c3) 34 (G.p0 w0 n4) (hr3.below G.below) G.below.size (by simp; omega)
      rw [hkl] at h1
      have hlo := ((G.p0 w0 n4)).lt
      have hgb := below_grown G.below G.below.size h3 (fun j hj => (hlo j hj).1)
      have HS := Lib.hid (And.intro h2 (And.intro h3 (And.intro h4 (And.intro hlo hgb))))
      have GH := Lib.hid G
      clear G h2 h3 h4 hlo hgb
      go_wp2_with (at_builtin; refine wpList_append_at _ rfl (.tmp 33) (.tmp 36) _ _ rfl _ _ rfl rfl h1 ?_)
      obtain ⟨h2, h3, h4, hlo, hgb⟩ := HS.out
      have G := GH.out
      exact hQ1.out _ _ ⟨_, _, _, _, true, _, _, _, _, _, _, _, _, _, _, _, _, _, _, _, _, _, _, _, _, _, rfl, rfl, { G with
        below := hgb
        p0 := fun _ h => by cases h
        p4 := fun _ _ => by simpa using h2
        p6 := fun h6 h7 => by
          obtain ⟨j, e, hx, hN, h8, h9⟩ := G.p6 h6 h7
          refine ⟨j, e, grown_box hx h3 (h8 w0 n4), hN, (fun _ h => by cases h), fun _ e2 => ?_⟩
          rcases h4 with h4 | h4
          · rw [h4] at e2; exact h8 w0 n4 e2
          · rw [h4] at e2
            have := hx.lt
            have := Option.some.inj e2
            omega
        p7 := fun h => by rw [n7] at h; cases h
        p11 := fun h => by rw [n11] at h; cases h
        o7 := fun h => by rw [n7] at h; cases h }⟩
    · skip
      obtain ⟨d0, d1, d2, d3⟩ := (HB.out.below G.below HB.out.lt).cells
      refine wpOp_list (o := { dst := some 38, op := Op.load 27 (Operand.tmp 3), type := 27, pos := "ref.go:27", after := #[], guard := none }) rfl fun Q1 hQ1 => ?_
      clear hi hsz
      go_wp2_with fail
      exact hQ1.out _ _ ⟨_, _, _, _, _, true, _, _, _, _, _, _, _, _, _, _, _, _, _, _, _, _, _, _, _, _, rfl, rfl, { G with p5 := fun _ => rfl }⟩
    · skip
      have w5 : b5 = true := waits_of hi 5 (by kernel_rfl)
      have e38 := G.p5 w5
      subst e38
      refine wpOp_list (o := { dst := some 39, op := Op.buildSlice 34 1 #[(0, Operand.tmp 38)], type := 34, pos := "ref.go:27", after := #[{ on := 5, ground := Ground.data }], guard := none }) rfl fun Q1 hQ1 => ?_
      clear hi hsz
      have hb : Below u.heap.size u (u.alloc (.cells #[.int .i64 x.a, .int .i64 x.b, .int .i64 x.c, .int .i64 x.d] 27)) := (Below.refl _ _).alloc (Nat.le_refl _) _
      have G2 := G.mono hb
      have GH := Lib.hid G
      clear G hb
      go_wp2_with fail
      replace G2 := Lib.hid G2
      exact hQ1.out _ _ ⟨_, _, _, _, _, _, true, _, _, _, _, _, _, _, _, _, _, _, _, _, _, _, _, _, _, _, rfl, rfl, { G2.out with
        p6 := fun _ h7 => ⟨u.heap.size, rfl, RBox.new u x, GH.out.below.size, fun h0 h4 e => absurd ((GH.out.p0 h0 h4).lt _ e).2 (Nat.lt_irrefl _), fun h4 e => absurd ((GH.out.p4 h4 h7).lt _ e).2 (Nat.lt_irrefl _)⟩
        o7 := fun h => ⟨(GH.out.o7 h).1, rfl⟩ }⟩
    · skip
      have n7 : b7 = false := by obtain ⟨h1, h2⟩ := ready_lt hsz hi; exact h2
      have w4 : b4 = true := waits_of hi 4 (by kernel_rfl)
      have w6 : b6 = true := waits_of hi 6 (by kernel_rfl)
      have n11 : b11 = false := by
        cases e : b11
        · rfl
        · have := G.o11 e; rw [n7] at this; cases this
      obtain ⟨j, e39, hx, hN, -, h9⟩ := G.p6 w6 n7
      subst e39
      have hkl : (l.take k).length = k := by rw [List.length_take, Nat.min_eq_left hk]
      refine wpOp_list (o := { dst := some 40, op := Op.call { callee := Callee.builtin Builtin.append, args := #[Operand.tmp 37, Operand.tmp 39], argTypes := #[34, 34] }, type := 34, pos := "ref.go:27", after := #[{ on := 4, ground := Ground.data }, { on := 6, ground := Ground.data }, { on := 4, ground := Ground.chain }], guard := none }) rfl fun Q1 hQ1 => ?_
      clear hi hsz
      obtain ⟨v', u', h1, h2, h3, h4⟩ := run_OS (c := 1) 34 (G.p4 w4 n7) (box_rat hx) G.below.size (by simp; omega)
      have hlo := ((G.p4 w4 n7)).lt
      have hgb := below_grown G.below G.below.size h3 (fun j hj => (hlo j hj).1)
      have HS := Lib.hid (And.intro h2 (And.intro h3 (And.intro h4 (And.intro hlo hgb))))
      have GH := Lib.hid G
      clear G h2 h3 h4 hlo hgb
      go_wp2_with (at_builtin; refine wpList_append_at _ rfl (.tmp 37) (.tmp 39) _ _ rfl _ _ rfl rfl h1 ?_)
      obtain ⟨h2, h3, h4, hlo, hgb⟩ := HS.out
      have G := GH.out
      exact hQ1.out _ _ ⟨_, _, _, _, _, _, _, true, _, _, _, _, _, _, _, _, _, _, _, _, _, _, _, _, _, _, rfl, rfl, { G with
        below := hgb
        p0 := fun _ h => by rw [w4] at h; cases h
        p4 := fun _ h => by cases h
        p6 := fun _ h => by cases h
        p7 := fun _ _ => h2
        p11 := fun h => by rw [n11] at h; cases h
        o7 := fun _ => ⟨w4, w6⟩
        o11 := fun _ => rfl }⟩
    · skip
      refine wpOp_list (o := { dst := some 41, op := Op.move (Operand.tmp 0), type := 34, pos := "ref.go:27", after := #[], guard := none }) rfl fun Q1 hQ1 => ?_
      clear hi hsz
      go_wp2_with fail
      exact hQ1.out _ _ ⟨_, _, _, _, _, _, _, _, true, _, _, _, _, _, _, _, _, _, _, _, _, _, _, _, _, _, rfl, rfl, { G with p8 := fun _ => rfl }⟩
    · skip
      refine wpOp_list (o := { dst := some 42, op := Op.move (Operand.tmp 5), type := 3, pos := "ref.go:27", after := #[], guard := none }) rfl fun Q1 hQ1 => ?_
      clear hi hsz
      go_wp2_with fail
      exact hQ1.out _ _ ⟨_, _, _, _, _, _, _, _, _, true, _, _, _, _, _, _, _, _, _, _, _, _, _, _, _, _, rfl, rfl, { G with p9 := fun _ => rfl }⟩
    · skip
      have w8 : b8 = true := waits_of hi 8 (by kernel_rfl)
      have w9 : b9 = true := waits_of hi 9 (by kernel_rfl)
      have e1 := G.p8 w8
      have e2 := G.p9 w9
      subst e1 e2
      have hk1 : (k : Int) ≤ (l.length : Int) := by omega
      have hk2 : (k : Int) ≤ (c : Int) := by omega
      have GH := Lib.hid G
      clear G
      cases A with
      | none =>
        have hc0 := hn rfl
        subst hc0
        obtain rfl : k = 0 := by omega
        have hl0 : l.length = 0 := by omega
        have hl1 : l = [] := List.length_eq_zero_iff.1 hl0
        subst hl1
        refine wpOp_list (o := { dst := some 43, op := Op.slice 34 (Operand.tmp 41) (some (Operand.tmp 42)) none none, type := 34, pos := "ref.go:27", after := #[{ on := 8, ground := Ground.data }, { on := 9, ground := Ground.data }], guard := none }) rfl fun Q1 hQ1 => ?_
        clear hi hsz
        go_wp2_with fail
        exact hQ1.out _ _ ⟨_, _, _, _, _, _, _, _, _, _, true, _, _, _, _, _, _, _, _, _, _, _, _, _, _, _, rfl, rfl, { GH.out with p10 := fun _ => ⟨none, 0, rfl, Or.inl rfl⟩ }⟩
      | some a =>
        obtain ⟨g, o, rfl⟩ := hA a rfl
        by_cases hck : c = k
        · have hd : l.drop k = [] := List.drop_eq_nil_of_le (by omega)
          have HD := Lib.hid hd
          clear hd
          subst hck
          refine wpOp_list (o := { dst := some 43, op := Op.slice 34 (Operand.tmp 41) (some (Operand.tmp 42)) none none, type := 34, pos := "ref.go:27", after := #[{ on := 8, ground := Ground.data }, { on := 9, ground := Ground.data }], guard := none }) rfl fun Q1 hQ1 => ?_
          clear hi hsz
          go_wp2_with fail
          exact hQ1.out _ _ ⟨_, _, _, _, _, _, _, _, _, _, true, _, _, _, _, _, _, _, _, _, _, _, _, _, _, _, rfl, rfl, { GH.out with p10 := fun _ => ⟨some ⟨g, o, none⟩, 0, by rw [show l.length - c = 0 from by omega], Or.inl HD.out⟩ }⟩
        · skip
          refine wpOp_list (o := { dst := some 43, op := Op.slice 34 (Operand.tmp 41) (some (Operand.tmp 42)) none none, type := 34, pos := "ref.go:27", after := #[{ on := 8, ground := Ground.data }, { on := 9, ground := Ground.data }], guard := none }) rfl fun Q1 hQ1 => ?_
          clear hi hsz
          go_wp2_with fail
          exact hQ1.out _ _ ⟨_, _, _, _, _, _, _, _, _, _, true, _, _, _, _, _, _, _, _, _, _, _, _, _, _, _, rfl, rfl, { GH.out with p10 := fun _ => ⟨_, _, rfl, rat_drop HR.out⟩ }⟩
    · skip
      have n11 : b11 = false := by obtain ⟨h1, h2⟩ := ready_lt hsz hi; exact h2
      have w7 : b7 = true := waits_of hi 7 (by kernel_rfl)
      have w10 : b10 = true := waits_of hi 10 (by kernel_rfl)
      obtain ⟨A3, c3, e43, hr3⟩ := G.p10 w10
      subst e43
      have hkl : (l.drop k).length = l.length - k := List.length_drop ..
      refine wpOp_list (o := { dst := some 44, op := Op.call { callee := Callee.builtin Builtin.append, args := #[Operand.tmp 40, Operand.tmp 43], argTypes := #[34, 34] }, type := 34, pos := "ref.go:27", after := #[{ on := 7, ground := Ground.data }, { on := 10, ground := Ground.data }, { on := 7, ground := Ground.chain }], guard := none }) rfl fun Q1 hQ1 => ?_
      clear hi hsz
      obtain ⟨v', u', h1, h2, h3, h4⟩ := run_OS (c := c3) 34 (G.p7 w7 n11) (hr3.below G.below) G.below.size (by simp; omega)
      rw [hkl] at h1
      have hlo := ((G.p7 w7 n11)).lt
      have hgb := below_grown G.below G.below.size h3 (fun j hj => (hlo j hj).1)
      have HS := Lib.hid (And.intro h2 (And.intro h3 (And.intro h4 (And.intro hlo hgb))))
      have GH := Lib.hid G
      clear G h2 h3 h4 hlo hgb
      go_wp2_with (at_builtin; refine wpList_append_at _ rfl (.tmp 40) (.tmp 43) _ _ rfl _ _ rfl rfl h1 ?_)
      obtain ⟨h2, h3, h4, hlo, hgb⟩ := HS.out
      have G := GH.out
      exact hQ1.out _ _ ⟨_, _, _, _, _, _, _, _, _, _, _, true, _, _, _, _, _, _, _, _, _, _, _, _, _, _, rfl, rfl, { G with
        below := hgb
        p0 := fun _ h => by rw [(G.o7 w7).1] at h; cases h
        p4 := fun _ h => by rw [w7] at h; cases h
        p6 := fun _ h => by rw [w7] at h; cases h
        p7 := fun _ h => by cases h
        p11 := fun _ => h2
        p12 := fun h => by have := (G.p12 h).1; rw [n11] at this; cases this
        o11 := fun _ => w7 }⟩
    · skip
      have w11 : b11 = true := waits_of hi 11 (by kernel_rfl)
      refine wpOp_list (o := { dst := some 4, op := Op.assign (Operand.tmp 44), type := 34, pos := "ref.go:27", after := #[{ on := 11, ground := Ground.data }, { on := 11, ground := Ground.chain }, { on := 0, ground := Ground.phase }, { on := 1, ground := Ground.phase }, { on := 2, ground := Ground.phase }, { on := 3, ground := Ground.phase }, { on := 4, ground := Ground.phase }, { on := 5, ground := Ground.phase }, { on := 6, ground := Ground.phase }, { on := 7, ground := Ground.phase }, { on := 8, ground := Ground.phase }, { on := 9, ground := Ground.phase }, { on := 10, ground := Ground.phase }, { on := 11, ground := Ground.phase }], guard := none }) rfl fun Q1 hQ1 => ?_
      clear hi hsz
      go_wp2_with fail
      exact hQ1.out _ _ ⟨_, _, _, _, _, _, _, _, _, _, _, _, true, _, _, _, _, _, _, _, _, _, _, _, _, _, rfl, rfl, { G with p12 := fun _ => ⟨w11, rfl⟩ }⟩
  · intro a u hI
    obtain ⟨b0, b1, b2, b3, b4, b5, b6, b7, b8, b9, b10, b11, b12, v33, v34, v35, v36, v37, v38, v39, v40, v41, v42, v43, v44, v4, hb, rfl, G⟩ := hI
    have hb' : #[true, true, true, true, true, true, true, true, true, true, true, true, true] = #[b0, b1, b2, b3, b4, b5, b6, b7, b8, b9, b10, b11, b12] := hb
    injection hb' with hb'
    injection hb' with e0 hb'
    injection hb' with e1 hb'
    injection hb' with e2 hb'
    injection hb' with e3 hb'
    injection hb' with e4 hb'
    injection hb' with e5 hb'
    injection hb' with e6 hb'
    injection hb' with e7 hb'
    injection hb' with e8 hb'
    injection hb' with e9 hb'
    injection hb' with e10 hb'
    injection hb' with e11 hb'
    injection hb' with e12 hb'
    have h4 := (G.p12 e12.symm).2
    subst h4
    exact HQ.out _ _ _ _ _ _ _ _ _ _ _ _ _ _ (G.p11 e11.symm) G.below
  · exact ⟨Below.refl _ _, (fun h => by cases h), (fun h => by cases h), (fun h => by cases h), (fun h => by cases h), (fun h => by cases h), (fun h => by cases h), (fun h => by cases h), (fun h => by cases h), (fun h => by cases h), (fun h => by cases h), (fun h => by cases h), (fun h => by cases h), (fun h => by cases h), (fun h => by cases h), (fun h => by cases h)⟩
end Go.Proofs.YtccigjelbnjcoaaGreatDoor.RefsC
namespace Go.Proofs.YtccigjelbnjcoaaGreatDoor.RefsC
set_option linter.unusedVariables false
open Go.RowKit Go.Proofs.YtccigjelbnjcoaaGreatDoor.NumC
open Go.Proofs.YtccigjelbnjcoaaGreatDoor.TreeC (addr_add0 addr_add Kept Kept.refl eq_rect below_grown)
def RPost (B : Nat) (v : Value) (l : List Rc) (w : World) (e : Ending) (w' : World) : Prop := ∃ v', e = .returned v' ∧ OS w' B v' l ∧ Below w.heap.size w w' ∧ (v' = v ∨ OS w' w.heap.size v' l)
set_option maxHeartbeats 2000000 in
set_option maxRecDepth 100000 in
theorem rPut (B : Nat) (v : Value) (l : List Rc) (x : Rc) (w : World) (hl : l.length ≤ 100000) (hO : OS w B v l) (hB : B ≤ w.heap.size) :
    Calls Tryz.prog 24 #[v, .agg #[.int .i64 x.a, .int .i64 x.b, .int .i64 x.c, .int .i64 x.d]] w (RPost B v (putL l x) w) := by
  obtain ⟨A, c, rfl, hcl, hnn, hAA⟩ : ∃ A c, v = .slice A l.length c ∧ l.length ≤ c ∧ (A = none → c = 0) ∧ (∀ a, A = some a → ∃ g o, a = ⟨g, o, none⟩) := by
    rcases hO.2 with ⟨h1, h2⟩ | ⟨g, cap, cur, h1, -, -, h2, -⟩
    · exact ⟨none, 0, by rw [h1, h2], by omega, fun _ => rfl, fun a h => by cases h⟩
    · exact ⟨some ⟨g, 0, none⟩, cap, h1, h2, (fun h => by cases h), fun a h => by cases h; exact ⟨g, 0, rfl⟩⟩
  have hR := hO.rat.2
  have HO := Lib.hid hO
  clear hO
  have hbx := RBox.new w x
  have bW : Below w.heap.size w (w.alloc (.cells #[.int .i64 x.a, .int .i64 x.b, .int .i64 x.c, .int .i64 x.d] 27)) := (Below.refl _ w).alloc (Nat.le_refl _) _
  have hR1 := (hR.below bW).mono bW.size
  have HR := Lib.hid hR1
  have HBW := Lib.hid bW
  have HBX := Lib.hid hbx
  have hs := hbx.lt
  clear hR hR1 bW hbx
  go_enter Tryz.func24, Tryz.ntmps24
  go_wp2_with fail
  generalize (w.alloc (.cells #[.int .i64 x.a, .int .i64 x.b, .int .i64 x.c, .int .i64 x.d] 27)) = W at *
  generalize hbs : w.heap.size = b at *
  go_loopw [5] (fun iv wr => ∃ k : Nat, k ≤ l.length ∧ iv = .int .i64 k ∧ Hid (Below W.heap.size W wr ∧ (∀ i, i < k → ∃ y, l[i]? = some y ∧ aheadB y x = true))) (fun iv _ => l.length - (intOf iv).toNat)
  case atStart => exact ⟨0, Nat.zero_le _, rfl, Lib.hid ⟨Below.refl _ _, fun i hi => absurd hi (Nat.not_lt_zero _)⟩⟩
  case round =>
    obtain ⟨k, hk, rfl, HR2⟩ := hrel
    obtain ⟨hb, hn⟩ := HR2.out
    have hx2 := HBX.out.below hb hs
    obtain ⟨d0, d1, d2, d3⟩ := hx2.cells
    by_cases hlt : k < l.length
    · have hd1 : (k : Int) < (l.length : Int) := by omega
      obtain ⟨y, hy⟩ := nth_some l k hlt
      obtain ⟨g0, o, rfl, hg0, c0, c1, c2, c3⟩ := (HR.out.below hb).nth k y hy
      have HB := Lib.hid hb
      have HN := Lib.hid hn
      have HY := Lib.hid hy
      clear hb hn hy hx2
      go_wp2_with fail
      refine region_tail 10 (by kernel_rfl) (by kernel_rfl) ?_
      simp only [List.take_succ_cons, List.take_zero, List.drop_succ_cons, List.drop_zero]
      replace d0 : wr.drew.cell? ⟨b, 0, none⟩ = some (.int .i64 x.a) := d0
      replace d1 : wr.drew.cell? ⟨b, 1, none⟩ = some (.int .i64 x.b) := d1
      replace d2 : wr.drew.cell? ⟨b, 2, none⟩ = some (.int .i64 x.c) := d2
      replace d3 : wr.drew.cell? ⟨b, 3, none⟩ = some (.int .i64 x.d) := d3
      replace c0 : wr.drew.cell? ⟨g0, o + k * 4, none⟩ = some (.int .i64 y.a) := c0
      replace c1 : wr.drew.cell? ⟨g0, o + k * 4 + 1, none⟩ = some (.int .i64 y.b) := c1
      replace c2 : wr.drew.cell? ⟨g0, o + k * 4 + 2, none⟩ = some (.int .i64 y.c) := c2
      replace c3 : wr.drew.cell? ⟨g0, o + k * 4 + 3, none⟩ = some (.int .i64 y.d) := c3
      replace HB : Hid (Below W.heap.size W wr.drew) := Lib.hid (below_drew HB.out)
      generalize wr.drew = V at *
      iterate 10 still_step
      refine wpStill_nil ?_
      go_wp2_with fail
      refine (rAhead y x _).mono ?_; rintro e w5 ⟨rfl, hb5⟩
      have HB5 := Lib.hid (HB.out.trans (hb5.mono HB.out.size))
      have hx5 := HBX.out.below HB5.out hs
      have hr5 := HR.out.below HB5.out
      obtain ⟨g9, o9, e9, -, c0, c1, c2, c3⟩ := hr5.nth k y HY.out
      obtain ⟨e91, e92⟩ : g9 = g0 ∧ o9 = o := by injection e9 with e9; injection e9 with e1 e2; exact ⟨e1.symm, e2.symm⟩
      subst e91 e92
      obtain ⟨d0, d1, d2, d3⟩ := hx5.cells
      clear hb5 e9 hx5 HB
      cases hah : aheadB y x
      · have HAH := Lib.hid hah
        clear hah
        have eN := eq_rc y x
        have hpl : placeL l x = k := place_of HN.out (Or.inr ⟨y, HY.out, HAH.out⟩)
        have hput := put_at l x
        rw [hpl, HY.out] at hput
        have HW : Hid (Below w.heap.size w w5) := Lib.hid (by rw [hbs]; exact HBW.out.trans (HB5.out.mono (Nat.le_of_lt hs)))
        clear hpl
        by_cases hxy : y = x
        · rw [decide_eq_true hxy] at eN
          have HP : Hid (putL l x = l) := Lib.hid (by rw [hput, if_pos (by rw [hxy])])
          clear hr5 hput hxy
          go_wp2_with fail
          go_quiet (fail)
          go_wp2_with fail
          go_ret
          exact ⟨_, rfl, by rw [HP.out]; exact (HO.out.below HW.out).below ⟨rfl, rfl, rfl, Nat.le_refl _, fun _ _ => rfl⟩, below_drewN' HW.out _, Or.inl rfl⟩
        · rw [decide_eq_false hxy] at eN
          have HRR := Lib.hid (hr5.mono HB5.out.size)
          have HP : Hid (putL l x = l.take k ++ [x] ++ l.drop k) := Lib.hid (by rw [hput, if_neg (fun e => hxy (Option.some.inj e)), List.append_assoc]; rfl)
          have hsz : Hid (w.heap.size ≤ w5.heap.size) := Lib.hid HW.out.size
          have hXX := Lib.hid (HBX.out.below HB5.out hs)
          clear hr5 hput hxy
          go_wp2_with fail
          go_quiet (fail)
          go_wp2_with fail
          refine put_region hl hk hcl hnn hAA (HRR.out.below ⟨rfl, rfl, rfl, Nat.le_refl _, fun _ _ => rfl⟩) hXX.out ?_
          intro v33 v34 v35 v36 v37 v38 v39 v40 v41 v42 v43 v44 v4 u ho hb
          have HF : Hid (RPost B (.slice (some ⟨g9, o9, none⟩) l.length c) (putL l x) w (.returned v4) u) := Lib.hid ⟨_, rfl, by rw [HP.out]; exact (OS.mono ho (Nat.le_trans (by omega) hsz.out)), by first | exact (below_drewN' HW.out _).trans (Below.mono hb hsz.out) | exact (below_drewN' (below_drewN' HW.out _) _).trans (Below.mono hb hsz.out), Or.inr (by rw [HP.out]; exact OS.mono ho hsz.out)⟩
          clear ho hb
          go_wp2_with fail
          go_ret
          exact HF.out
      · have HAH := Lib.hid hah
        clear hah c0 c1 c2 c3 d0 d1 d2 d3 hr5
        go_wp2_with fail
        go_roundw
        case rel =>
          refine ⟨k + 1, by omega, by go_num, Lib.hid ⟨HB5.out, fun i hi => ?_⟩⟩
          by_cases e : i = k
          · subst e; exact ⟨y, HY.out, HAH.out⟩
          · exact HN.out i (by omega)
        case measure => simp [intOf]; omega
    · have hd1 : ¬ (k : Int) < (l.length : Int) := by omega
      have hke : k = l.length := by omega
      have hpl : placeL l x = k := place_of hn (Or.inl hke)
      have hput := put_at l x
      rw [hpl, List.getElem?_eq_none (by omega), if_neg (fun e => by cases e)] at hput
      have HP : Hid (putL l x = l.take k ++ [x] ++ l.drop k) := Lib.hid (by rw [hput, List.append_assoc]; rfl)
      have HW : Hid (Below w.heap.size w wr) := Lib.hid (by rw [hbs]; exact HBW.out.trans (hb.mono (Nat.le_of_lt hs)))
      have hsz : Hid (w.heap.size ≤ wr.heap.size) := Lib.hid HW.out.size
      have HRR := Lib.hid ((HR.out.below hb).mono hb.size)
      have hXX := Lib.hid hx2
      clear hb hn hx2 hpl hput hke
      go_wp2_with fail
      go_quiet (fail)
      go_wp2_with fail
      go_quiet (fail)
      go_wp2_with fail
      refine put_region hl hk hcl hnn hAA (HRR.out.below ⟨rfl, rfl, rfl, Nat.le_refl _, fun _ _ => rfl⟩) hXX.out ?_
      intro v33 v34 v35 v36 v37 v38 v39 v40 v41 v42 v43 v44 v4 u ho hb
      have HF : Hid (RPost B (.slice A l.length c) (putL l x) w (.returned v4) u) := Lib.hid ⟨_, rfl, by rw [HP.out]; exact (OS.mono ho (Nat.le_trans (by omega) hsz.out)), by first | exact (below_drewN' HW.out _).trans (Below.mono hb hsz.out) | exact (below_drewN' (below_drewN' HW.out _) _).trans (Below.mono hb hsz.out), Or.inr (by rw [HP.out]; exact OS.mono ho hsz.out)⟩
      clear ho hb
      go_wp2_with fail
      go_ret
      exact HF.out
end Go.Proofs.YtccigjelbnjcoaaGreatDoor.RefsC
namespace Go.Proofs.YtccigjelbnjcoaaGreatDoor.RefsC
set_option linter.unusedVariables false
open Go.RowKit Go.Proofs.YtccigjelbnjcoaaGreatDoor.NumC Go.Proofs.YtccigjelbnjcoaaGreatDoor.LexC Go.Proofs.YtccigjelbnjcoaaGreatDoor.TreeC
def RIn (a : Nd) (w wr : World) (k : Nat) (ov tv : Value) : Prop := ∃ (q : Fo) (m : List Rc), k ≤ q.len ∧ QS wr w.heap.size tv q ∧ Below w.heap.size w wr ∧ k + (q.drop k).size = a.size ∧ OS wr w.heap.size ov m ∧ Srt m ∧ m.length ≤ k ∧ (∀ x, x ∈ m ∨ x ∈ namesF (q.drop k) ↔ x ∈ namesF a.one) ∧ (ov.ownBlock = none ∨ ov.ownBlock ≠ tv.ownBlock)
theorem RIn.step {a : Nd} {w wr w3 w9 : World} {k : Nat} {ov tv ov3 v9 : Value} {q : Fo} {m m3 : List Rc} (hlt : k < q.len) (hsz : k + (q.drop k).size = a.size) (hm : ∀ x, x ∈ m ∨ x ∈ namesF (q.drop k) ↔ x ∈ namesF a.one) (hml : m.length ≤ k)
    (h3 : OS w3 w.heap.size ov3 m3 ∧ Srt m3 ∧ m3.length ≤ m.length + 1 ∧ (∀ x, x ∈ m3 ↔ x ∈ m ∨ x ∈ rcOf (q.nth k).f)) (hQ : QS w3 w.heap.size tv q) (hB : Below w.heap.size w w3) (hv : ov3.ownBlock = none ∨ ov3.ownBlock ≠ tv.ownBlock)
    (hq9 : QS w9 w.heap.size v9 (q.app (q.nth k).kids)) (hg9 : w3.grownBy w9 tv.ownBlock) (hat9 : v9.ownBlock = tv.ownBlock ∨ v9.ownBlock = some w3.heap.size) : RIn a w w9 (k + 1) ov3 v9 := by
  obtain ⟨h31, h32, h33, h34⟩ := h3
  refine ⟨_, m3, by rw [Fo.len_app]; omega, hq9, below_grown hB hB.size hg9 (fun j hj => (hQ.lt j hj).1), Fo.queue_size q k a.size hlt hsz, h31.grown hg9 hv, h32, by omega, fun x => ?_, ?_⟩
  · rw [h34, ← hm x, names_step q k hlt x, or_assoc]
  · rcases hat9 with h | h
    · rw [h]; exact hv
    · rw [h]
      rcases hv with h0 | h0
      · exact Or.inl h0
      · right
        intro e
        exact absurd (h31.lt _ e).2 (Nat.lt_irrefl _)
theorem put_rc {m : List Rc} {f : Fld} {r : Rc} (h : rcOf f = [r]) (x : Rc) : x ∈ putL m r ↔ x ∈ m ∨ x ∈ rcOf f := by rw [put_mem, h, List.mem_singleton]
set_option maxRecDepth 100000 in
set_option maxHeartbeats 4000000 in
theorem rOf (a : Nd) (A : Option Addr) (c : Nat) (w : World) (hs : a.size ≤ 2000) (hsh : a.one.Short) (hK : KidsAt w (fun g => g < w.heap.size) a.kids A) :
    Calls Tryz.prog 12 #[.agg #[.int .i64 a.f.k, .int .i64 a.f.vk, .int .i64 a.f.vn, .string a.f.vs, .int .i64 a.f.r1, .int .i64 a.f.r2, .int .i64 a.f.r3, .int .i64 a.f.r4, .string a.f.op, .slice A a.kids.len c]] w (PutPost w.heap.size (ofL a) w) := by
  have b1 : Below w.heap.size w (w.alloc (.cells #[.int .i64 a.f.k, .int .i64 a.f.vk, .int .i64 a.f.vn, .string a.f.vs, .int .i64 a.f.r1, .int .i64 a.f.r2, .int .i64 a.f.r3, .int .i64 a.f.r4, .string a.f.op, .slice A a.kids.len c] 30)) := (Below.refl _ _).alloc (Nat.le_refl _) _
  have L1 : NLoc (w.alloc (.cells #[.int .i64 a.f.k, .int .i64 a.f.vk, .int .i64 a.f.vn, .string a.f.vs, .int .i64 a.f.r1, .int .i64 a.f.r2, .int .i64 a.f.r3, .int .i64 a.f.r4, .string a.f.op, .slice A a.kids.len c] 30)) w.heap.size a.f A a.kids.len c := ⟨heap_alloc_new _ _⟩
  have hcall := rGood a A c (w.alloc (.cells #[.int .i64 a.f.k, .int .i64 a.f.vk, .int .i64 a.f.vn, .string a.f.vs, .int .i64 a.f.r1, .int .i64 a.f.r2, .int .i64 a.f.r3, .int .i64 a.f.r4, .string a.f.op, .slice A a.kids.len c] 30)) hs hsh (below_row hK b1)
  have HK := Lib.hid hK
  clear hK hsh
  cases hgd : goodT fitsB a
  · rw [hgd] at hcall
    have HL : Hid (ofL a = []) := Lib.hid (by unfold ofL; rw [hgd]; rfl)
    clear hgd
    obtain ⟨d0, d1, d2, d3, d4, d5, d6, d7, d8, d9, -⟩ := L1.cells
    go_enter Tryz.func12, Tryz.ntmps12
    go_wp2_with fail
    refine hcall.mono ?_; rintro e w2 ⟨rfl, hb2⟩
    have HB := Lib.hid (b1.trans (hb2.mono b1.size))
    clear d0 d1 d2 d3 d4 d5 d6 d7 d8 d9 hb2 hcall L1 b1
    go_wp2_with fail
    go_ret
    exact ⟨_, rfl, by rw [HL.out]; exact OS.nil _ _, HB.out⟩
  · rw [hgd] at hcall
    have HL : Hid (ofL a = refsL a) := Lib.hid (by unfold ofL; rw [if_pos hgd])
    clear hgd
    obtain ⟨d0, d1, d2, d3, d4, d5, d6, d7, d8, d9, -⟩ := L1.cells
    go_enter Tryz.func12, Tryz.ntmps12
    go_wp2_with fail
    refine hcall.mono ?_; rintro e w2 ⟨rfl, hb2⟩
    have L2 := L1.kept (Kept.of hb2) (Nat.ne_of_lt L1.lt)
    have B2 := b1.trans (hb2.mono b1.size)
    have b3 : Below w.heap.size w (w2.alloc (.cells #[.int .i64 a.f.k, .int .i64 a.f.vk, .int .i64 a.f.vn, .string a.f.vs, .int .i64 a.f.r1, .int .i64 a.f.r2, .int .i64 a.f.r3, .int .i64 a.f.r4, .string a.f.op, .slice A a.kids.len c] 30)) := B2.alloc B2.size _
    have HQ : Hid (RIn a w (w2.alloc (.cells #[.int .i64 a.f.k, .int .i64 a.f.vk, .int .i64 a.f.vn, .string a.f.vs, .int .i64 a.f.r1, .int .i64 a.f.r2, .int .i64 a.f.r3, .int .i64 a.f.r4, .string a.f.op, .slice A a.kids.len c] 30)) 0 (.slice none 0 0) (.slice (some ⟨w2.heap.size, 0, none⟩) 1 1)) := Lib.hid ⟨a.one, [], Nat.zero_le _, QS.one (f := a.f) (kd := a.kids) (c := c) (heap_alloc_new _ _) B2.size rfl (kids_below HK.out b3 (Nat.le_refl _)), b3, by rw [Fo.drop_zero, Nd.one_size]; omega, OS.nil _ _, srt_nil, Nat.le_refl _, fun x => by rw [Fo.drop_zero]; simp, Or.inl rfl⟩
    clear d0 d1 d2 d3 d4 d5 d6 d7 d8 d9 hb2 hcall L1 b1 B2 b3
    obtain ⟨d0, d1, d2, d3, d4, d5, d6, d7, d8, d9, -⟩ := L2.cells
    go_wp2_with fail
    clear d0 d1 d2 d3 d4 d5 d6 d7 d8 d9 L2
    go_loopw [3, 4, 5] (fun ov tv iv wr => ∃ k : Nat, k ≤ 2000 ∧ iv = .int .i64 k ∧ Hid (RIn a w wr k ov tv)) (fun _ _ iv _ => 2000 - (intOf iv).toNat)
    case atStart => exact ⟨0, by omega, rfl, HQ⟩
    case round =>
      clear HQ
      obtain ⟨k, hk, rfl, HR⟩ := hrel
      obtain ⟨q, m, hkq, hQ, hB, hsz, ho, hms, hml, hmm, hv⟩ := HR.out
      clear HR
      have hql : q.len ≤ 2000 := by
        have h1 := Fo.len_size (q.drop k)
        rw [Fo.len_drop] at h1
        omega
      obtain ⟨mA, mc, rfl⟩ := ho.form
      by_cases hlt : k < q.len
      · obtain ⟨g, c9, A2, c2, rfl, hg0, hg1, hkid, f0, f1, f2, f3, f4, f5, f6, f7, f8, f9⟩ := hQ.nth k hlt
        have hd1 : (k : Int) < (q.len : Int) := by omega
        have hnl : q.len + (q.nth k).kids.len ≤ 1000000 := by
          have h1 := Fo.size_drop q k hlt
          have h2 := Fo.len_size (q.nth k).kids
          omega
        have hb3 : Below wr.heap.size wr (wr.alloc (.cells #[.int .i64 (q.nth k).f.k, .int .i64 (q.nth k).f.vk, .int .i64 (q.nth k).f.vn, .string (q.nth k).f.vs, .int .i64 (q.nth k).f.r1, .int .i64 (q.nth k).f.r2, .int .i64 (q.nth k).f.r3, .int .i64 (q.nth k).f.r4, .string (q.nth k).f.op, .slice A2 (q.nth k).kids.len c2] 30)) := (Below.refl _ _).alloc (Nat.le_refl _) _
        have HST := Lib.hid (fun (m3 : List Rc) (w3 w9 : World) (ov3 v9 : Value) h3 hQ3 hB3 hv3 hq9 hg9 hat9 => RIn.step (a := a) (w := w) (wr := wr) (w3 := w3) (w9 := w9) (ov := .slice mA m.length mc) (tv := .slice (some ⟨g, 0, none⟩) q.len c9) (ov3 := ov3) (v9 := v9) (m3 := m3) hlt hsz hmm hml h3 hQ3 hB3 hv3 hq9 hg9 hat9)
        have L3 : NLoc (wr.alloc (.cells #[.int .i64 (q.nth k).f.k, .int .i64 (q.nth k).f.vk, .int .i64 (q.nth k).f.vn, .string (q.nth k).f.vs, .int .i64 (q.nth k).f.r1, .int .i64 (q.nth k).f.r2, .int .i64 (q.nth k).f.r3, .int .i64 (q.nth k).f.r4, .string (q.nth k).f.op, .slice A2 (q.nth k).kids.len c2] 30)) wr.heap.size (q.nth k).f A2 (q.nth k).kids.len c2 := ⟨heap_alloc_new _ _⟩
        have hBr := hB.size
        have HB3 : Hid (Below w.heap.size w (wr.alloc (.cells #[.int .i64 (q.nth k).f.k, .int .i64 (q.nth k).f.vk, .int .i64 (q.nth k).f.vn, .string (q.nth k).f.vs, .int .i64 (q.nth k).f.r1, .int .i64 (q.nth k).f.r2, .int .i64 (q.nth k).f.r3, .int .i64 (q.nth k).f.r4, .string (q.nth k).f.op, .slice A2 (q.nth k).kids.len c2] 30))) := Lib.hid (hB.alloc hBr _)
        have HQ3 := Lib.hid (hQ.below hb3)
        have HKD3 := Lib.hid (kids_below hkid (hb3.mono hBr) hBr)
        have hO3 := ho.below hb3
        have hlen3 : w.heap.size ≤ (wr.alloc (.cells #[.int .i64 (q.nth k).f.k, .int .i64 (q.nth k).f.vk, .int .i64 (q.nth k).f.vn, .string (q.nth k).f.vs, .int .i64 (q.nth k).f.r1, .int .i64 (q.nth k).f.r2, .int .i64 (q.nth k).f.r3, .int .i64 (q.nth k).f.r4, .string (q.nth k).f.op, .slice A2 (q.nth k).kids.len c2] 30)).heap.size := by rw [World.size_alloc]; omega
        have e23 : (q.nth k).f.k = 2 ∨ (q.nth k).f.k = 3 ∨ (¬ (q.nth k).f.k = 2 ∧ ¬ (q.nth k).f.k = 3) := by omega
        clear hQ hB hsz ho hmm hkid hb3
        rcases e23 with e2 | e3 | ⟨e2, e3⟩
        · have t2 : ((q.nth k).f.k == 2) = true := by rw [e2]; rfl
          have t3 : ((q.nth k).f.k == 3) = false := by rw [e2]; rfl
          have HRC : Hid (rcOf (q.nth k).f = [⟨(q.nth k).f.r1, (q.nth k).f.r2, (q.nth k).f.r1, (q.nth k).f.r2⟩]) := Lib.hid (by unfold rcOf; rw [if_pos e2])
          clear e2
          go_wp2_with fail
          generalize (wr.alloc (.cells #[.int .i64 (q.nth k).f.k, .int .i64 (q.nth k).f.vk, .int .i64 (q.nth k).f.vn, .string (q.nth k).f.vs, .int .i64 (q.nth k).f.r1, .int .i64 (q.nth k).f.r2, .int .i64 (q.nth k).f.r3, .int .i64 (q.nth k).f.r4, .string (q.nth k).f.op, .slice A2 (q.nth k).kids.len c2] 30)) = V at *
          refine (rPut w.heap.size _ m ⟨(q.nth k).f.r1, (q.nth k).f.r2, (q.nth k).f.r1, (q.nth k).f.r2⟩ _ (by omega) hO3 hlen3).mono ?_
          rintro e w5 ⟨v5, rfl, ho5, hb5, hn5⟩
          have L5 := L3.kept (Kept.of hb5) (Nat.ne_of_lt L3.lt)
          have hgV : g < V.heap.size := Nat.lt_trans hg1 L3.lt
          have HV : Hid (v5.ownBlock = none ∨ v5.ownBlock ≠ (Value.slice (some ⟨g, 0, none⟩) q.len c9).ownBlock) := Lib.hid (by
            rcases hn5 with rfl | h5
            · exact hv
            · right
              intro e
              have : V.heap.size ≤ g := (h5.lt _ e).1
              omega)
          have HM := Lib.hid (show OS w5 w.heap.size v5 (putL m ⟨(q.nth k).f.r1, (q.nth k).f.r2, (q.nth k).f.r1, (q.nth k).f.r2⟩) ∧ Srt (putL m ⟨(q.nth k).f.r1, (q.nth k).f.r2, (q.nth k).f.r1, (q.nth k).f.r2⟩) ∧ (putL m ⟨(q.nth k).f.r1, (q.nth k).f.r2, (q.nth k).f.r1, (q.nth k).f.r2⟩).length ≤ m.length + 1 ∧ (∀ x, x ∈ putL m ⟨(q.nth k).f.r1, (q.nth k).f.r2, (q.nth k).f.r1, (q.nth k).f.r2⟩ ↔ x ∈ m ∨ x ∈ rcOf (q.nth k).f) from ⟨ho5, put_srt hms _, put_len_le _ _, put_rc HRC.out⟩)
          replace HQ3 := Lib.hid (HQ3.out.below hb5)
          replace HKD3 := Lib.hid (kids_below HKD3.out (hb5.mono hlen3) hlen3)
          replace HB3 := Lib.hid (HB3.out.trans (hb5.mono hlen3))
          have hBs3 := HB3.out.size
          obtain ⟨d0, d1, d2, d3, d4, d5, d6, d7, d8, d9, -⟩ := L5.cells
          clear ho5 hb5 hn5 L5 L3 hO3 hlen3 hgV f0 f1 f2 f3 f4 f5 f6 f7 f8 f9
          generalize putL m ⟨(q.nth k).f.r1, (q.nth k).f.r2, (q.nth k).f.r1, (q.nth k).f.r2⟩ = m5 at *
          go_wp2_with (at_builtin
                       refine wpList_append_queue _ rfl (.tmp 41) (.tmp 43) rfl (B := w.heap.size) (c := c2) (fo := q) (kd := (q.nth k).kids) (A := A2) rfl rfl HQ3.out HKD3.out hnl hBs3 ?_
                       intro v9 w9 hq9 hg9 hat9
                       have HD9 := Lib.hid (HST.out _ _ _ _ _ HM.out HQ3.out HB3.out HV.out hq9 hg9 hat9)
                       clear hq9 hg9 hat9)
          go_roundw
          case rel => exact ⟨k + 1, by omega, by go_num, HD9⟩
          case measure => simp [intOf]; omega
        · have t2 : ((q.nth k).f.k == 2) = false := by rw [e3]; rfl
          have t3 : ((q.nth k).f.k == 3) = true := by rw [e3]; rfl
          have HRC : Hid (rcOf (q.nth k).f = [⟨(q.nth k).f.r1, (q.nth k).f.r2, (q.nth k).f.r3, (q.nth k).f.r4⟩]) := Lib.hid (by unfold rcOf; rw [e3]; rfl)
          clear e3
          go_wp2_with fail
          generalize (wr.alloc (.cells #[.int .i64 (q.nth k).f.k, .int .i64 (q.nth k).f.vk, .int .i64 (q.nth k).f.vn, .string (q.nth k).f.vs, .int .i64 (q.nth k).f.r1, .int .i64 (q.nth k).f.r2, .int .i64 (q.nth k).f.r3, .int .i64 (q.nth k).f.r4, .string (q.nth k).f.op, .slice A2 (q.nth k).kids.len c2] 30)) = V at *
          refine (rPut w.heap.size _ m ⟨(q.nth k).f.r1, (q.nth k).f.r2, (q.nth k).f.r3, (q.nth k).f.r4⟩ _ (by omega) hO3 hlen3).mono ?_
          rintro e w5 ⟨v5, rfl, ho5, hb5, hn5⟩
          have L5 := L3.kept (Kept.of hb5) (Nat.ne_of_lt L3.lt)
          have hgV : g < V.heap.size := Nat.lt_trans hg1 L3.lt
          have HV : Hid (v5.ownBlock = none ∨ v5.ownBlock ≠ (Value.slice (some ⟨g, 0, none⟩) q.len c9).ownBlock) := Lib.hid (by
            rcases hn5 with rfl | h5
            · exact hv
            · right
              intro e
              have : V.heap.size ≤ g := (h5.lt _ e).1
              omega)
          have HM := Lib.hid (show OS w5 w.heap.size v5 (putL m ⟨(q.nth k).f.r1, (q.nth k).f.r2, (q.nth k).f.r3, (q.nth k).f.r4⟩) ∧ Srt (putL m ⟨(q.nth k).f.r1, (q.nth k).f.r2, (q.nth k).f.r3, (q.nth k).f.r4⟩) ∧ (putL m ⟨(q.nth k).f.r1, (q.nth k).f.r2, (q.nth k).f.r3, (q.nth k).f.r4⟩).length ≤ m.length + 1 ∧ (∀ x, x ∈ putL m ⟨(q.nth k).f.r1, (q.nth k).f.r2, (q.nth k).f.r3, (q.nth k).f.r4⟩ ↔ x ∈ m ∨ x ∈ rcOf (q.nth k).f) from ⟨ho5, put_srt hms _, put_len_le _ _, put_rc HRC.out⟩)
          replace HQ3 := Lib.hid (HQ3.out.below hb5)
          replace HKD3 := Lib.hid (kids_below HKD3.out (hb5.mono hlen3) hlen3)
          replace HB3 := Lib.hid (HB3.out.trans (hb5.mono hlen3))
          have hBs3 := HB3.out.size
          obtain ⟨d0, d1, d2, d3, d4, d5, d6, d7, d8, d9, -⟩ := L5.cells
          clear ho5 hb5 hn5 L5 L3 hO3 hlen3 hgV f0 f1 f2 f3 f4 f5 f6 f7 f8 f9
          generalize putL m ⟨(q.nth k).f.r1, (q.nth k).f.r2, (q.nth k).f.r3, (q.nth k).f.r4⟩ = m5 at *
          go_wp2_with (at_builtin
                       refine wpList_append_queue _ rfl (.tmp 41) (.tmp 43) rfl (B := w.heap.size) (c := c2) (fo := q) (kd := (q.nth k).kids) (A := A2) rfl rfl HQ3.out HKD3.out hnl hBs3 ?_
                       intro v9 w9 hq9 hg9 hat9
                       have HD9 := Lib.hid (HST.out _ _ _ _ _ HM.out HQ3.out HB3.out HV.out hq9 hg9 hat9)
                       clear hq9 hg9 hat9)
          go_roundw
          case rel => exact ⟨k + 1, by omega, by go_num, HD9⟩
          case measure => simp [intOf]; omega
        · have t2 : ((q.nth k).f.k == 2) = false := by simp [e2]
          have t3 : ((q.nth k).f.k == 3) = false := by simp [e3]
          have HRC : Hid (rcOf (q.nth k).f = []) := Lib.hid (by unfold rcOf; rw [if_neg e2, if_neg e3])
          clear e2 e3
          have HV : Hid ((Value.slice mA m.length mc).ownBlock = none ∨ (Value.slice mA m.length mc).ownBlock ≠ (Value.slice (some ⟨g, 0, none⟩) q.len c9).ownBlock) := Lib.hid hv
          have HM := Lib.hid (show OS (wr.alloc (.cells #[.int .i64 (q.nth k).f.k, .int .i64 (q.nth k).f.vk, .int .i64 (q.nth k).f.vn, .string (q.nth k).f.vs, .int .i64 (q.nth k).f.r1, .int .i64 (q.nth k).f.r2, .int .i64 (q.nth k).f.r3, .int .i64 (q.nth k).f.r4, .string (q.nth k).f.op, .slice A2 (q.nth k).kids.len c2] 30)) w.heap.size (.slice mA m.length mc) m ∧ Srt m ∧ m.length ≤ m.length + 1 ∧ (∀ x, x ∈ m ↔ x ∈ m ∨ x ∈ rcOf (q.nth k).f) from ⟨hO3, hms, Nat.le_succ _, fun x => by rw [HRC.out]; simp⟩)
          have hBs3 := hlen3
          clear hO3 hlen3 L3
          go_wp2_with (at_builtin
                       refine wpList_append_queue _ rfl (.tmp 41) (.tmp 43) rfl (B := w.heap.size) (c := c2) (fo := q) (kd := (q.nth k).kids) (A := A2) rfl rfl HQ3.out HKD3.out hnl hBs3 ?_
                       intro v9 w9 hq9 hg9 hat9
                       have HD9 := Lib.hid (HST.out _ _ _ _ _ HM.out HQ3.out HB3.out HV.out hq9 hg9 hat9)
                       clear hq9 hg9 hat9)
          go_roundw
          case rel => exact ⟨k + 1, by omega, by go_num, HD9⟩
          case measure => simp [intOf]; omega
      · have hd1 : ¬ (k : Int) < (q.len : Int) := by omega
        obtain ⟨NA, nc, rfl⟩ := hQ.form
        have HF : Hid (PutPost w.heap.size (ofL a) w (.returned (.slice mA m.length mc)) wr) := Lib.hid ⟨_, rfl, by
          rw [HL.out, ← refs_of hms (fun x => by
            have := hmm x
            rw [Fo.drop_len q k (by omega)] at this
            simpa [namesF] using this)]
          exact ho, hB⟩
        clear hQ hB hsz ho hms hml hmm hv
        go_wp2_with fail
        go_ret
        exact HF.out
end Go.Proofs.YtccigjelbnjcoaaGreatDoor.RefsC
