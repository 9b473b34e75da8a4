/-
  The library's Insert of one rectangle into a row of a call's own: contract.
-/
import Derived.Test.YtakamedgdiffbaaGreatDoorPPlaysTreeZ2
import Derived.Test.YtakamedgdiffbaaGreatDoorPPlaysNumG
import Derived.Test.YtakamedgdiffbaaGreatDoorPPlaysRefsM
import Derived.Test.YtakamedgdiffbaaGreatDoorPPlaysAddrA
import Derived.Laws.CopyRow
import Derived.Lib.AppendZerosOnto
import Derived.Lib.Overlaps
import Derived.Laws.Externs
import Derived.Deep.AppendLies
namespace Go.Proofs.YtakamedgdiffbaaGreatDoor.RefsC
set_option linter.unusedVariables false
open Go.RowKit Go.Proofs.YtakamedgdiffbaaGreatDoor.NumC
open Go.Proofs.YtakamedgdiffbaaGreatDoor.TreeC (addr_add0 addr_add)
theorem rect_info : (Tryz.prog.info? 51).map (fun i => (i.zero, i.size, i.bytes)) = some (some (.agg #[.int .i64 0, .int .i64 0, .int .i64 0, .int .i64 0]), 4, 32) := by kernel_rfl
theorem wpList_append_at {ops : Array Oper} {rest : List Oper} {o : Oper} {a : Act} {Q : Exit → Act → World → Prop} (w : World) (hgd : o.guard = none) (s x : Operand) (t t' : TypeId)
    (ho : o.op = .call { callee := .builtin .append, args := #[s, x], argTypes := #[t, t'] }) (v u : Value) (hs : a.eval s = v) (hx : a.eval x = u) {v' : Value} {w' : World}
    (hr : (Builtin.append_ #[t, t'] o.type #[v, u]).run Tryz.prog w = .ok v' w') (h : wpList Tryz.prog ops Q rest (a.put o.dst v') w') : wpList Tryz.prog ops Q (o :: rest) a w := by
  refine wpList_plain hgd fun K hK => ?_
  unfold Oper.wp execOp
  simp only [ho, resolve, invoke, builtin, Sem.run_bind, Sem.run_pure, Result.andThen_ok, List.map_toArray, List.map_cons, List.map_nil, hs, hx, hr]
  exact hK _ _ h
end Go.Proofs.YtakamedgdiffbaaGreatDoor.RefsC
namespace Go.Proofs.YtakamedgdiffbaaGreatDoor.RefsC
set_option linter.unusedVariables false
open Go.RowKit Go.Proofs.YtakamedgdiffbaaGreatDoor.NumC
open Go.Proofs.YtakamedgdiffbaaGreatDoor.TreeC (addr_add0 addr_add Kept Kept.refl eq_rect below_grown)
theorem eq_rc (x y : Rc) (W : World) : (binOp .eql 51 (.agg #[.int .i64 x.a, .int .i64 x.b, .int .i64 x.c, .int .i64 x.d]) (.agg #[.int .i64 y.a, .int .i64 y.b, .int .i64 y.c, .int .i64 y.d])).run Tryz.prog W = .ok (.bool (decide (x = y))) W := by
  have h := eq_rect x.a x.b x.c x.d y.a y.b y.c y.d W
  have e : decide (x.a = y.a ∧ x.b = y.b ∧ x.c = y.c ∧ x.d = y.d) = decide (x = y) := by
    rw [decide_eq_decide]
    constructor
    · obtain ⟨a, b, c, d⟩ := x; obtain ⟨a', b', c', d'⟩ := y
      rintro ⟨h1, h2, h3, h4⟩
      simp only at h1 h2 h3 h4
      rw [h1, h2, h3, h4]
    · rintro rfl; exact ⟨rfl, rfl, rfl, rfl⟩
  rw [← e]; exact h
end Go.Proofs.YtakamedgdiffbaaGreatDoor.RefsC
namespace Go.Proofs.YtakamedgdiffbaaGreatDoor.RefsC
set_option linter.unusedVariables false
open Go.RowKit Go.Proofs.YtakamedgdiffbaaGreatDoor.NumC
open Go.Proofs.YtakamedgdiffbaaGreatDoor.TreeC (addr_add0 addr_add below_grown run_append_none0)
theorem run_OS (ty : TypeId) {u : World} {N M c : Nat} {v : Value} {l m : List Rc} {A : Option Addr} (ho : OS u N v l) (hr : RAt u M m A) (hN : N ≤ u.heap.size) (hl : l.length + m.length ≤ 200000) :
    ∃ v' u', (Builtin.append_ #[36, 36] ty #[v, .slice A m.length c]).run Tryz.prog u = .ok v' u' ∧ OS u' N v' (l ++ m) ∧ u.grownBy u' v.ownBlock ∧ (v'.ownBlock = v.ownBlock ∨ v'.ownBlock = some u.heap.size) := by
  obtain ⟨i0, hi0, hz0, hz1, hz2⟩ := info_parts rect_info
  cases A with
  | none =>
    have hm : m = [] := by
      rcases hr with h | ⟨g, o, e, -⟩
      · exact h
      · cases e
    subst hm
    exact ⟨v, u, run_append_none0 N 36 ty 51 i0 4 c Tryz.underlying36 hi0 v l.length (rcells l) ho, by rw [List.append_nil]; exact ho, ⟨rfl, rfl, rfl, Nat.le_refl _, fun _ _ _ => rfl⟩, Or.inl rfl⟩
  | some a =>
    have hnews : ∀ j w, (rcells m)[j]? = some w → u.cell? (a.add j) = some w := by
      by_cases hm : m = []
      · subst hm; intro j w h; cases h
      · obtain ⟨g, o, e, -, h⟩ := hr.cells hm
        injection e with e
        subst e
        intro j w hj
        rw [addr_add]; exact h j w hj
    obtain ⟨v', u', h1, h2, h3, -, h5⟩ := run_append_own_at (P := Tryz.prog) u N 36 ty 51 i0 _ 4 32 Tryz.underlying36 hi0 hz0 hz1 hz2 rfl (by decide) v l.length (rcells l) ho a m.length c (rcells m) (rcells_len m) hnews (rcells_one m) (by unfold maxLen; omega) (by omega) hN
    refine ⟨v', u', h1, ?_, h3, h5⟩
    unfold OS
    rw [rcells_app, List.length_append]; exact h2
def putOps : List Oper := [
  { dst := some 33, op := Op.buildSlice 36 0 #[], type := 36, pos := "ref.go:27", after := #[], guard := none },
  { dst := some 34, op := Op.move (Operand.tmp 0), type := 36, pos := "ref.go:27", after := #[], guard := none },
  { dst := some 35, op := Op.move (Operand.tmp 5), type := 3, pos := "ref.go:27", after := #[], guard := none },
  { dst := some 36, op := Op.slice 36 (Operand.tmp 34) none (some (Operand.tmp 35)) none, type := 36, pos := "ref.go:27", after := #[{ on := 1, ground := Ground.data }, { on := 2, ground := Ground.data }], guard := none },
  { dst := some 37, op := Op.call { callee := Callee.builtin Builtin.append, args := #[Operand.tmp 33, Operand.tmp 36], argTypes := #[36, 36] }, type := 36, pos := "ref.go:27", after := #[{ on := 0, ground := Ground.data }, { on := 3, ground := Ground.data }], guard := none },
  { dst := some 38, op := Op.load 51 (Operand.tmp 3), type := 51, pos := "ref.go:27", after := #[], guard := none },
  { dst := some 39, op := Op.buildSlice 36 1 #[(0, Operand.tmp 38)], type := 36, pos := "ref.go:27", after := #[{ on := 5, ground := Ground.data }], guard := none },
  { dst := some 40, op := Op.call { callee := Callee.builtin Builtin.append, args := #[Operand.tmp 37, Operand.tmp 39], argTypes := #[36, 36] }, type := 36, pos := "ref.go:27", after := #[{ on := 4, ground := Ground.data }, { on := 6, ground := Ground.data }, { on := 4, ground := Ground.chain }], guard := none },
  { dst := some 41, op := Op.move (Operand.tmp 0), type := 36, pos := "ref.go:27", after := #[], guard := none },
  { dst := some 42, op := Op.move (Operand.tmp 5), type := 3, pos := "ref.go:27", after := #[], guard := none },
  { dst := some 43, op := Op.slice 36 (Operand.tmp 41) (some (Operand.tmp 42)) none none, type := 36, pos := "ref.go:27", after := #[{ on := 8, ground := Ground.data }, { on := 9, ground := Ground.data }], guard := none },
  { dst := some 44, op := Op.call { callee := Callee.builtin Builtin.append, args := #[Operand.tmp 40, Operand.tmp 43], argTypes := #[36, 36] }, type := 36, pos := "ref.go:27", after := #[{ on := 7, ground := Ground.data }, { on := 10, ground := Ground.data }, { on := 7, ground := Ground.chain }], guard := none },
  { dst := some 4, op := Op.assign (Operand.tmp 44), type := 36, pos := "ref.go:27", after := #[{ on := 11, ground := Ground.data }, { on := 11, ground := Ground.chain }, { on := 0, ground := Ground.phase }, { on := 1, ground := Ground.phase }, { on := 2, ground := Ground.phase }, { on := 3, ground := Ground.phase }, { on := 4, ground := Ground.phase }, { on := 5, ground := Ground.phase }, { on := 6, ground := Ground.phase }, { on := 7, ground := Ground.phase }, { on := 8, ground := Ground.phase }, { on := 9, ground := Ground.phase }, { on := 10, ground := Ground.phase }, { on := 11, ground := Ground.phase }], guard := none }]
structure PI (W : World) (l : List Rc) (A : Option Addr) (c b k : Nat) (x : Rc) (b0 b1 b2 b3 b4 b5 b6 b7 b8 b9 b10 b11 b12 : Bool) (v33 v34 v35 v36 v37 v38 v39 v40 v41 v42 v43 v44 v4 : Value) (u : World) : Prop where
  below : Below W.heap.size W u
  p0 : b0 = true → b4 = false → OS u W.heap.size v33 []
  p1 : b1 = true → v34 = .slice A l.length c
  p2 : b2 = true → v35 = .int .i64 (k : Nat)
  p3 : b3 = true → ∃ A' c', v36 = .slice A' k c' ∧ RAt W W.heap.size (l.take k) A'
  p4 : b4 = true → b7 = false → OS u W.heap.size v37 (l.take k)
  p5 : b5 = true → v38 = .agg #[.int .i64 x.a, .int .i64 x.b, .int .i64 x.c, .int .i64 x.d]
  p6 : b6 = true → b7 = false → ∃ j, v39 = .slice (some ⟨j, 0, none⟩) 1 1 ∧ RBox u j x ∧ W.heap.size ≤ j ∧ (b0 = true → b4 = false → v33.ownBlock ≠ some j) ∧ (b4 = true → v37.ownBlock ≠ some j)
  p7 : b7 = true → b11 = false → OS u W.heap.size v40 (l.take k ++ [x])
  p8 : b8 = true → v41 = .slice A l.length c
  p9 : b9 = true → v42 = .int .i64 (k : Nat)
  p10 : b10 = true → ∃ A' c', v43 = .slice A' (l.length - k) c' ∧ RAt W W.heap.size (l.drop k) A'
  p11 : b11 = true → OS u W.heap.size v44 (l.take k ++ [x] ++ l.drop k)
  p12 : b12 = true → b11 = true ∧ v4 = v44
  o7 : b7 = true → b4 = true ∧ b6 = true
  o11 : b11 = true → b7 = true
theorem PI.mono {W : World} {l : List Rc} {A : Option Addr} {c b k : Nat} {x : Rc} {b0 b1 b2 b3 b4 b5 b6 b7 b8 b9 b10 b11 b12 : Bool} {v33 v34 v35 v36 v37 v38 v39 v40 v41 v42 v43 v44 v4 : Value} {u u' : World} (G : PI W l A c b k x b0 b1 b2 b3 b4 b5 b6 b7 b8 b9 b10 b11 b12 v33 v34 v35 v36 v37 v38 v39 v40 v41 v42 v43 v44 v4 u) (hb : Below u.heap.size u u') : PI W l A c b k x b0 b1 b2 b3 b4 b5 b6 b7 b8 b9 b10 b11 b12 v33 v34 v35 v36 v37 v38 v39 v40 v41 v42 v43 v44 v4 u' :=
  { G with
    below := G.below.trans (hb.mono G.below.size)
    p0 := fun h h2 => (G.p0 h h2).below hb
    p4 := fun h h2 => (G.p4 h h2).below hb
    p6 := fun h h2 => by
      obtain ⟨j, e, hx, h3⟩ := G.p6 h h2
      exact ⟨j, e, hx.below hb hx.lt, h3⟩
    p7 := fun h h2 => (G.p7 h h2).below hb
    p11 := fun h => (G.p11 h).below hb }
theorem grown_box {u u' : World} {j : Nat} {x : Rc} {row : Option Nat} (h : RBox u j x) (hg : u.grownBy u' row) (hne : row ≠ some j) : RBox u' j x := (hg.block j h.lt (fun e => hne e.symm)).trans h
theorem box_rat {u : World} {j : Nat} {x : Rc} (h : RBox u j x) : RAt u u.heap.size [x] (some ⟨j, 0, none⟩) := by
  obtain ⟨c0, c1, c2, c3⟩ := h.cells
  refine Or.inr ⟨j, 0, rfl, h.lt, fun i y hy => ?_⟩
  cases i with
  | zero => cases hy; exact ⟨c0, c1, c2, c3⟩
  | succ i => cases hy
theorem rat_take {W : World} {M k : Nat} {l : List Rc} {A : Option Addr} (h : RAt W M l A) : RAt W M (l.take k) A := by
  rcases h with h | ⟨g, o, e, hg, h⟩
  · left; rw [h, List.take_nil]
  · refine Or.inr ⟨g, o, e, hg, fun i y hy => h i y ?_⟩
    rw [List.getElem?_take] at hy
    split at hy
    · exact hy
    · cases hy
theorem rat_drop {W : World} {M k g o : Nat} {l : List Rc} (h : RAt W M l (some ⟨g, o, none⟩)) : RAt W M (l.drop k) (some ⟨g, o + k * 4, none⟩) := by
  rcases h with h | ⟨g', o', e, hg, h⟩
  · left; rw [h, List.drop_nil]
  · injection e with e
    injection e with e1 e2
    subst e1 e2
    refine Or.inr ⟨g, o + k * 4, rfl, hg, fun i y hy => ?_⟩
    rw [List.getElem?_drop] at hy
    have := h _ y hy
    rwa [show o + (k + i) * 4 = o + k * 4 + i * 4 from by omega] at this
set_option maxHeartbeats 4000000 in
set_option maxRecDepth 100000 in
theorem put_region {W : World} {l : List Rc} {A : Option Addr} {c b k : Nat} {x : Rc} {z2 z6 z7 z8 z9 z10 z11 z12 z13 z14 z15 z16 z17 z18 z19 z20 z21 z22 z23 z24 z25 z26 z27 z28 z29 z30 z31 z32 v33 v34 v35 v36 v37 v38 v39 v40 v41 v42 v43 v44 v4 : Value} {Q : Exit → Act → World → Prop} (hl : l.length ≤ 100000) (hk : k ≤ l.length) (hc : l.length ≤ c) (hn : A = none → c = 0) (hA : ∀ a, A = some a → ∃ g o, a = ⟨g, o, none⟩) (hR : RAt W W.heap.size l A) (hB : RBox W b x)
    (hQ : ∀ (v33 v34 v35 v36 v37 v38 v39 v40 v41 v42 v43 v44 v4 : Value) (u : World), OS u W.heap.size v4 (l.take k ++ [x] ++ l.drop k) → Below W.heap.size W u → Q .normal ⟨#[.slice A l.length c, .agg #[.int .i64 x.a, .int .i64 x.b, .int .i64 x.c, .int .i64 x.d], z2, .pointer (some ⟨b, 0, none⟩), v4, .int .i64 (k : Nat), z6, z7, z8, z9, z10, z11, z12, z13, z14, z15, z16, z17, z18, z19, z20, z21, z22, z23, z24, z25, z26, z27, z28, z29, z30, z31, z32, v33, v34, v35, v36, v37, v38, v39, v40, v41, v42, v43, v44], []⟩ u) : (Code.region 6 putOps.toArray true).wp Tryz.prog Q ⟨#[.slice A l.length c, .agg #[.int .i64 x.a, .int .i64 x.b, .int .i64 x.c, .int .i64 x.d], z2, .pointer (some ⟨b, 0, none⟩), v4, .int .i64 (k : Nat), z6, z7, z8, z9, z10, z11, z12, z13, z14, z15, z16, z17, z18, z19, z20, z21, z22, z23, z24, z25, z26, z27, z28, z29, z30, z31, z32, v33, v34, v35, v36, v37, v38, v39, v40, v41, v42, v43, v44], []⟩ W := by
  have hs : W.drew.heap.size = W.heap.size := rfl
  have HR : Hid (RAt W.drew W.drew.heap.size l A) := Lib.hid hR
  have HB : Hid (RBox W.drew b x) := Lib.hid hB
  have HQ : Hid (∀ (v33 v34 v35 v36 v37 v38 v39 v40 v41 v42 v43 v44 v4 : Value) (u : World), OS u W.drew.heap.size v4 (l.take k ++ [x] ++ l.drop k) → Below W.drew.heap.size W.drew u → Q .normal ⟨#[.slice A l.length c, .agg #[.int .i64 x.a, .int .i64 x.b, .int .i64 x.c, .int .i64 x.d], z2, .pointer (some ⟨b, 0, none⟩), v4, .int .i64 (k : Nat), z6, z7, z8, z9, z10, z11, z12, z13, z14, z15, z16, z17, z18, z19, z20, z21, z22, z23, z24, z25, z26, z27, z28, z29, z30, z31, z32, v33, v34, v35, v36, v37, v38, v39, v40, v41, v42, v43, v44], []⟩ u) := Lib.hid (fun v33 v34 v35 v36 v37 v38 v39 v40 v41 v42 v43 v44 v4 u h1 h2 => hQ v33 v34 v35 v36 v37 v38 v39 v40 v41 v42 v43 v44 v4 u h1 ⟨h2.os, h2.tape, h2.output, h2.size, h2.block⟩)
  clear hR hB hQ hs
  refine region_inv (I := fun listed a u => ∃ (b0 b1 b2 b3 b4 b5 b6 b7 b8 b9 b10 b11 b12 : Bool) (v33 v34 v35 v36 v37 v38 v39 v40 v41 v42 v43 v44 v4 : Value), listed = #[b0, b1, b2, b3, b4, b5, b6, b7, b8, b9, b10, b11, b12] ∧ a = ⟨#[.slice A l.length c, .agg #[.int .i64 x.a, .int .i64 x.b, .int .i64 x.c, .int .i64 x.d], z2, .pointer (some ⟨b, 0, none⟩), v4, .int .i64 (k : Nat), z6, z7, z8, z9, z10, z11, z12, z13, z14, z15, z16, z17, z18, z19, z20, z21, z22, z23, z24, z25, z26, z27, z28, z29, z30, z31, z32, v33, v34, v35, v36, v37, v38, v39, v40, v41, v42, v43, v44], []⟩ ∧ PI W.drew l A c b k x b0 b1 b2 b3 b4 b5 b6 b7 b8 b9 b10 b11 b12 v33 v34 v35 v36 v37 v38 v39 v40 v41 v42 v43 v44 v4 u) (by kernel_rfl) (by kernel_rfl) ?_ ?_ ⟨false, false, false, false, false, false, false, false, false, false, false, false, false, v33, v34, v35, v36, v37, v38, v39, v40, v41, v42, v43, v44, v4, rfl, rfl, ?_⟩
  · intro listed i a u hsz hi hI
    generalize W.drew = W0 at *
    obtain ⟨b0, b1, b2, b3, b4, b5, b6, b7, b8, b9, b10, b11, b12, v33, v34, v35, v36, v37, v38, v39, v40, v41, v42, v43, v44, v4, rfl, rfl, G⟩ := hI
    have hlt : i < 13 := by
      have := ready_lt hsz hi
      obtain ⟨h, -⟩ := this
      simpa using h
    have hh : i = 0 ∨ i = 1 ∨ i = 2 ∨ i = 3 ∨ i = 4 ∨ i = 5 ∨ i = 6 ∨ i = 7 ∨ i = 8 ∨ i = 9 ∨ i = 10 ∨ i = 11 ∨ i = 12 := by omega
    clear hlt
    rcases hh with rfl | rfl | rfl | rfl | rfl | rfl | rfl | rfl | rfl | rfl | rfl | rfl | rfl
    · skip
      refine wpOp_list (o := { dst := some 33, op := Op.buildSlice 36 0 #[], type := 36, pos := "ref.go:27", after := #[], guard := none }) rfl fun Q1 hQ1 => ?_
      clear hi hsz
      have hb : Below u.heap.size u (u.alloc (.cells #[] 51)) := (Below.refl _ _).alloc (Nat.le_refl _) _
      have G2 := G.mono hb
      have GH := Lib.hid G
      clear G hb
      go_wp2_with fail
      replace G2 := Lib.hid G2
      exact hQ1.out _ _ ⟨true, _, _, _, _, _, _, _, _, _, _, _, _, _, _, _, _, _, _, _, _, _, _, _, _, _, rfl, rfl, { G2.out with
        p0 := fun _ _ => ⟨rfl, Or.inr ⟨_, 0, #[], rfl, GH.out.below.size, heap_alloc_new _ _, Nat.le_refl _, Nat.zero_le _, rfl, rfl⟩⟩
        p6 := fun h6 h7 => by
          obtain ⟨j, e, hx, hN, h1, h2⟩ := G2.out.p6 h6 h7
          obtain ⟨j', e', hx', -⟩ := GH.out.p6 h6 h7
          rw [e] at e'
          injection e' with e'
          injection e' with e'
          injection e' with e'
          exact ⟨j, e, hx, hN, fun _ _ e2 => by
            have e3 : u.heap.size = j := Option.some.inj e2
            have := hx'.lt
            omega, h2⟩ }⟩
    · skip
      refine wpOp_list (o := { dst := some 34, op := Op.move (Operand.tmp 0), type := 36, pos := "ref.go:27", after := #[], guard := none }) rfl fun Q1 hQ1 => ?_
      clear hi hsz
      go_wp2_with fail
      exact hQ1.out _ _ ⟨_, true, _, _, _, _, _, _, _, _, _, _, _, _, _, _, _, _, _, _, _, _, _, _, _, _, rfl, rfl, { G with p1 := fun _ => rfl }⟩
    · skip
      refine wpOp_list (o := { dst := some 35, op := Op.move (Operand.tmp 5), type := 3, pos := "ref.go:27", after := #[], guard := none }) rfl fun Q1 hQ1 => ?_
      clear hi hsz
      go_wp2_with fail
      exact hQ1.out _ _ ⟨_, _, true, _, _, _, _, _, _, _, _, _, _, _, _, _, _, _, _, _, _, _, _, _, _, _, rfl, rfl, { G with p2 := fun _ => rfl }⟩
    · skip
      have w1 : b1 = true := waits_of hi 1 (by kernel_rfl)
      have w2 : b2 = true := waits_of hi 2 (by kernel_rfl)
      have e1 := G.p1 w1
      have e2 := G.p2 w2
      subst e1 e2
      have hk1 : (k : Int) ≤ (l.length : Int) := by omega
      have hk2 : (k : Int) ≤ (c : Int) := by omega
      have GH := Lib.hid G
      clear G
      cases A with
      | none =>
        have hc0 := hn rfl
        subst hc0
        obtain rfl : k = 0 := by omega
        have hl0 : l.length = 0 := by omega
        have hl1 : l = [] := List.length_eq_zero_iff.1 hl0
        subst hl1
        refine wpOp_list (o := { dst := some 36, op := Op.slice 36 (Operand.tmp 34) none (some (Operand.tmp 35)) none, type := 36, pos := "ref.go:27", after := #[{ on := 1, ground := Ground.data }, { on := 2, ground := Ground.data }], guard := none }) rfl fun Q1 hQ1 => ?_
        clear hi hsz
        go_wp2_with fail
        exact hQ1.out _ _ ⟨_, _, _, true, _, _, _, _, _, _, _, _, _, _, _, _, _, _, _, _, _, _, _, _, _, _, rfl, rfl, { GH.out with p3 := fun _ => ⟨none, 0, rfl, Or.inl rfl⟩ }⟩
      | some a =>
        obtain ⟨g, o, rfl⟩ := hA a rfl
        refine wpOp_list (o := { dst := some 36, op := Op.slice 36 (Operand.tmp 34) none (some (Operand.tmp 35)) none, type := 36, pos := "ref.go:27", after := #[{ on := 1, ground := Ground.data }, { on := 2, ground := Ground.data }], guard := none }) rfl fun Q1 hQ1 => ?_
        clear hi hsz
        go_wp2_with fail
        exact hQ1.out _ _ ⟨_, _, _, true, _, _, _, _, _, _, _, _, _, _, _, _, _, _, _, _, _, _, _, _, _, _, rfl, rfl, { GH.out with p3 := fun _ => ⟨_, _, rfl, rat_take HR.out⟩ }⟩
    · skip
      have n4 : b4 = false := by obtain ⟨h1, h2⟩ := ready_lt hsz hi; exact h2
      have w0 : b0 = true := waits_of hi 0 (by kernel_rfl)
      have w3 : b3 = true := waits_of hi 3 (by kernel_rfl)
      have n7 : b7 = false := by
        cases e : b7
        · rfl
        · have := (G.o7 e).1; rw [n4] at this; cases this
      have n11 : b11 = false := by
        cases e : b11
        · rfl
        · have := G.o11 e; rw [n7] at this; cases this
      obtain ⟨A3, c3, e36, hr3⟩ := G.p3 w3
      subst e36
      have hkl : (l.take k).length = k := by rw [List.length_take, Nat.min_eq_left hk]
      refine wpOp_list (o := { dst := some 37, op := Op.call { callee := Callee.builtin Builtin.append, args := #[Operand.tmp 33, Operand.tmp 36], argTypes := #[36, 36] }, type := 36, pos := "ref.go:27", after := #[{ on := 0, ground := Ground.data }, { on := 3, ground := Ground.data }], guard := none }) rfl fun Q1 hQ1 => ?_
      clear hi hsz
      obtain ⟨v', u', h1, h2, h3, h4⟩ := run_OS (c := c3) 36 (G.p0 w0 n4) (hr3.below G.below) G.below.size (by simp; omega)
      rw [hkl] at h1
      have hlo := ((G.p0 w0 n4)).lt
      have hgb := below_grown G.below G.below.size h3 (fun j hj => (hlo j hj).1)
      have HS := Lib.hid (And.intro h2 (And.intro h3 (And.intro h4 (And.intro hlo hgb))))
      have GH := Lib.hid G
      clear G h2 h3 h4 hlo hgb
      go_wp2_with (at_builtin; refine wpList_append_at _ rfl (.tmp 33) (.tmp 36) _ _ rfl _ _ rfl rfl h1 ?_)
      obtain ⟨h2, h3, h4, hlo, hgb⟩ := HS.out
      have G := GH.out
      exact hQ1.out _ _ ⟨_, _, _, _, true, _, _, _, _, _, _, _, _, _, _, _, _, _, _, _, _, _, _, _, _, _, rfl, rfl, { G with
        below := hgb
        p0 := fun _ h => by cases h
        p4 := fun _ _ => by simpa using h2
        p6 := fun h6 h7 => by
          obtain ⟨j, e, hx, hN, h8, h9⟩ := G.p6 h6 h7
          refine ⟨j, e, grown_box hx h3 (h8 w0 n4), hN, (fun _ h => by cases h), fun _ e2 => ?_⟩
          rcases h4 with h4 | h4
          · rw [h4] at e2; exact h8 w0 n4 e2
          · rw [h4] at e2
            have := hx.lt
            have := Option.some.inj e2
            omega
        p7 := fun h => by rw [n7] at h; cases h
        p11 := fun h => by rw [n11] at h; cases h
        o7 := fun h => by rw [n7] at h; cases h }⟩
    · skip
      obtain ⟨d0, d1, d2, d3⟩ := (HB.out.below G.below HB.out.lt).cells
      refine wpOp_list (o := { dst := some 38, op := Op.load 51 (Operand.tmp 3), type := 51, pos := "ref.go:27", after := #[], guard := none }) rfl fun Q1 hQ1 => ?_
      clear hi hsz
      go_wp2_with fail
      exact hQ1.out _ _ ⟨_, _, _, _, _, true, _, _, _, _, _, _, _, _, _, _, _, _, _, _, _, _, _, _, _, _, rfl, rfl, { G with p5 := fun _ => rfl }⟩
    · skip
      have w5 : b5 = true := waits_of hi 5 (by kernel_rfl)
      have e38 := G.p5 w5
      subst e38
      refine wpOp_list (o := { dst := some 39, op := Op.buildSlice 36 1 #[(0, Operand.tmp 38)], type := 36, pos := "ref.go:27", after := #[{ on := 5, ground := Ground.data }], guard := none }) rfl fun Q1 hQ1 => ?_
      clear hi hsz
      have hb : Below u.heap.size u (u.alloc (.cells #[.int .i64 x.a, .int .i64 x.b, .int .i64 x.c, .int .i64 x.d] 51)) := (Below.refl _ _).alloc (Nat.le_refl _) _
      have G2 := G.mono hb
      have GH := Lib.hid G
      clear G hb
      go_wp2_with fail
      replace G2 := Lib.hid G2
      exact hQ1.out _ _ ⟨_, _, _, _, _, _, true, _, _, _, _, _, _, _, _, _, _, _, _, _, _, _, _, _, _, _, rfl, rfl, { G2.out with
        p6 := fun _ h7 => ⟨u.heap.size, rfl, RBox.new u x, GH.out.below.size, fun h0 h4 e => absurd ((GH.out.p0 h0 h4).lt _ e).2 (Nat.lt_irrefl _), fun h4 e => absurd ((GH.out.p4 h4 h7).lt _ e).2 (Nat.lt_irrefl _)⟩
        o7 := fun h => ⟨(GH.out.o7 h).1, rfl⟩ }⟩
    · skip
      have n7 : b7 = false := by obtain ⟨h1, h2⟩ := ready_lt hsz hi; exact h2
      have w4 : b4 = true := waits_of hi 4 (by kernel_rfl)
      have w6 : b6 = true := waits_of hi 6 (by kernel_rfl)
      have n11 : b11 = false := by
        cases e : b11
        · rfl
        · have := G.o11 e; rw [n7] at this; cases this
      obtain ⟨j, e39, hx, hN, -, h9⟩ := G.p6 w6 n7
      subst e39
      have hkl : (l.take k).length = k := by rw [List.length_take, Nat.min_eq_left hk]
      refine wpOp_list (o := { dst := some 40, op := Op.call { callee := Callee.builtin Builtin.append, args := #[Operand.tmp 37, Operand.tmp 39], argTypes := #[36, 36] }, type := 36, pos := "ref.go:27", after := #[{ on := 4, ground := Ground.data }, { on := 6, ground := Ground.data }, { on := 4, ground := Ground.chain }], guard := none }) rfl fun Q1 hQ1 => ?_
      clear hi hsz
      obtain ⟨v', u', h1, h2, h3, h4⟩ := run_OS (c := 1) 36 (G.p4 w4 n7) (box_rat hx) G.below.size (by simp; omega)
      have hlo := ((G.p4 w4 n7)).lt
      have hgb := below_grown G.below G.below.size h3 (fun j hj => (hlo j hj).1)
      have HS := Lib.hid (And.intro h2 (And.intro h3 (And.intro h4 (And.intro hlo hgb))))
      have GH := Lib.hid G
      clear G h2 h3 h4 hlo hgb
      go_wp2_with (at_builtin; refine wpList_append_at _ rfl (.tmp 37) (.tmp 39) _ _ rfl _ _ rfl rfl h1 ?_)
      obtain ⟨h2, h3, h4, hlo, hgb⟩ := HS.out
      have G := GH.out
      exact hQ1.out _ _ ⟨_, _, _, _, _, _, _, true, _, _, _, _, _, _, _, _, _, _, _, _, _, _, _, _, _, _, rfl, rfl, { G with
        below := hgb
        p0 := fun _ h => by rw [w4] at h; cases h
        p4 := fun _ h => by cases h
        p6 := fun _ h => by cases h
        p7 := fun _ _ => h2
        p11 := fun h => by rw [n11] at h; cases h
        o7 := fun _ => ⟨w4, w6⟩
        o11 := fun _ => rfl }⟩
    · skip
      refine wpOp_list (o := { dst := some 41, op := Op.move (Operand.tmp 0), type := 36, pos := "ref.go:27", after := #[], guard := none }) rfl fun Q1 hQ1 => ?_
      clear hi hsz
      go_wp2_with fail
      exact hQ1.out _ _ ⟨_, _, _, _, _, _, _, _, true, _, _, _, _, _, _, _, _, _, _, _, _, _, _, _, _, _, rfl, rfl, { G with p8 := fun _ => rfl }⟩
    · skip
      refine wpOp_list (o := { dst := some 42, op := Op.move (Operand.tmp 5), type := 3, pos := "ref.go:27", after := #[], guard := none }) rfl fun Q1 hQ1 => ?_
      clear hi hsz
      go_wp2_with fail
      exact hQ1.out _ _ ⟨_, _, _, _, _, _, _, _, _, true, _, _, _, _, _, _, _, _, _, _, _, _, _, _, _, _, rfl, rfl, { G with p9 := fun _ => rfl }⟩
    · skip
      have w8 : b8 = true := waits_of hi 8 (by kernel_rfl)
      have w9 : b9 = true := waits_of hi 9 (by kernel_rfl)
      have e1 := G.p8 w8
      have e2 := G.p9 w9
      subst e1 e2
      have hk1 : (k : Int) ≤ (l.length : Int) := by omega
      have hk2 : (k : Int) ≤ (c : Int) := by omega
      have GH := Lib.hid G
      clear G
      cases A with
      | none =>
        have hc0 := hn rfl
        subst hc0
        obtain rfl : k = 0 := by omega
        have hl0 : l.length = 0 := by omega
        have hl1 : l = [] := List.length_eq_zero_iff.1 hl0
        subst hl1
        refine wpOp_list (o := { dst := some 43, op := Op.slice 36 (Operand.tmp 41) (some (Operand.tmp 42)) none none, type := 36, pos := "ref.go:27", after := #[{ on := 8, ground := Ground.data }, { on := 9, ground := Ground.data }], guard := none }) rfl fun Q1 hQ1 => ?_
        clear hi hsz
        go_wp2_with fail
        exact hQ1.out _ _ ⟨_, _, _, _, _, _, _, _, _, _, true, _, _, _, _, _, _, _, _, _, _, _, _, _, _, _, rfl, rfl, { GH.out with p10 := fun _ => ⟨none, 0, rfl, Or.inl rfl⟩ }⟩
      | some a =>
        obtain ⟨g, o, rfl⟩ := hA a rfl
        by_cases hck : c = k
        · have hd : l.drop k = [] := List.drop_eq_nil_of_le (by omega)
          have HD := Lib.hid hd
          clear hd
          subst hck
          refine wpOp_list (o := { dst := some 43, op := Op.slice 36 (Operand.tmp 41) (some (Operand.tmp 42)) none none, type := 36, pos := "ref.go:27", after := #[{ on := 8, ground := Ground.data }, { on := 9, ground := Ground.data }], guard := none }) rfl fun Q1 hQ1 => ?_
          clear hi hsz
          go_wp2_with fail
          exact hQ1.out _ _ ⟨_, _, _, _, _, _, _, _, _, _, true, _, _, _, _, _, _, _, _, _, _, _, _, _, _, _, rfl, rfl, { GH.out with p10 := fun _ => ⟨some ⟨g, o, none⟩, 0, by rw [show l.length - c = 0 from by omega], Or.inl HD.out⟩ }⟩
        · skip
          refine wpOp_list (o := { dst := some 43, op := Op.slice 36 (Operand.tmp 41) (some (Operand.tmp 42)) none none, type := 36, pos := "ref.go:27", after := #[{ on := 8, ground := Ground.data }, { on := 9, ground := Ground.data }], guard := none }) rfl fun Q1 hQ1 => ?_
          clear hi hsz
          go_wp2_with fail
          exact hQ1.out _ _ ⟨_, _, _, _, _, _, _, _, _, _, true, _, _, _, _, _, _, _, _, _, _, _, _, _, _, _, rfl, rfl, { GH.out with p10 := fun _ => ⟨_, _, rfl, rat_drop HR.out⟩ }⟩
    · skip
      have n11 : b11 = false := by obtain ⟨h1, h2⟩ := ready_lt hsz hi; exact h2
      have w7 : b7 = true := waits_of hi 7 (by kernel_rfl)
      have w10 : b10 = true := waits_of hi 10 (by kernel_rfl)
      obtain ⟨A3, c3, e43, hr3⟩ := G.p10 w10
      subst e43
      have hkl : (l.drop k).length = l.length - k := List.length_drop ..
      refine wpOp_list (o := { dst := some 44, op := Op.call { callee := Callee.builtin Builtin.append, args := #[Operand.tmp 40, Operand.tmp 43], argTypes := #[36, 36] }, type := 36, pos := "ref.go:27", after := #[{ on := 7, ground := Ground.data }, { on := 10, ground := Ground.data }, { on := 7, ground := Ground.chain }], guard := none }) rfl fun Q1 hQ1 => ?_
      clear hi hsz
      obtain ⟨v', u', h1, h2, h3, h4⟩ := run_OS (c := c3) 36 (G.p7 w7 n11) (hr3.below G.below) G.below.size (by simp; omega)
      rw [hkl] at h1
      have hlo := ((G.p7 w7 n11)).lt
      have hgb := below_grown G.below G.below.size h3 (fun j hj => (hlo j hj).1)
      have HS := Lib.hid (And.intro h2 (And.intro h3 (And.intro h4 (And.intro hlo hgb))))
      have GH := Lib.hid G
      clear G h2 h3 h4 hlo hgb
      go_wp2_with (at_builtin; refine wpList_append_at _ rfl (.tmp 40) (.tmp 43) _ _ rfl _ _ rfl rfl h1 ?_)
      obtain ⟨h2, h3, h4, hlo, hgb⟩ := HS.out
      have G := GH.out
      exact hQ1.out _ _ ⟨_, _, _, _, _, _, _, _, _, _, _, true, _, _, _, _, _, _, _, _, _, _, _, _, _, _, rfl, rfl, { G with
        below := hgb
        p0 := fun _ h => by rw [(G.o7 w7).1] at h; cases h
        p4 := fun _ h => by rw [w7] at h; cases h
        p6 := fun _ h => by rw [w7] at h; cases h
        p7 := fun _ h => by cases h
        p11 := fun _ => h2
        p12 := fun h => by have := (G.p12 h).1; rw [n11] at this; cases this
        o11 := fun _ => w7 }⟩
    · skip
      have w11 : b11 = true := waits_of hi 11 (by kernel_rfl)
      refine wpOp_list (o := { dst := some 4, op := Op.assign (Operand.tmp 44), type := 36, pos := "ref.go:27", after := #[{ on := 11, ground := Ground.data }, { on := 11, ground := Ground.chain }, { on := 0, ground := Ground.phase }, { on := 1, ground := Ground.phase }, { on := 2, ground := Ground.phase }, { on := 3, ground := Ground.phase }, { on := 4, ground := Ground.phase }, { on := 5, ground := Ground.phase }, { on := 6, ground := Ground.phase }, { on := 7, ground := Ground.phase }, { on := 8, ground := Ground.phase }, { on := 9, ground := Ground.phase }, { on := 10, ground := Ground.phase }, { on := 11, ground := Ground.phase }], guard := none }) rfl fun Q1 hQ1 => ?_
      clear hi hsz
      go_wp2_with fail
      exact hQ1.out _ _ ⟨_, _, _, _, _, _, _, _, _, _, _, _, true, _, _, _, _, _, _, _, _, _, _, _, _, _, rfl, rfl, { G with p12 := fun _ => ⟨w11, rfl⟩ }⟩
  · intro a u hI
    obtain ⟨b0, b1, b2, b3, b4, b5, b6, b7, b8, b9, b10, b11, b12, v33, v34, v35, v36, v37, v38, v39, v40, v41, v42, v43, v44, v4, hb, rfl, G⟩ := hI
    have hb' : #[true, true, true, true, true, true, true, true, true, true, true, true, true] = #[b0, b1, b2, b3, b4, b5, b6, b7, b8, b9, b10, b11, b12] := hb
    injection hb' with hb'
    injection hb' with e0 hb'
    injection hb' with e1 hb'
    injection hb' with e2 hb'
    injection hb' with e3 hb'
    injection hb' with e4 hb'
    injection hb' with e5 hb'
    injection hb' with e6 hb'
    injection hb' with e7 hb'
    injection hb' with e8 hb'
    injection hb' with e9 hb'
    injection hb' with e10 hb'
    injection hb' with e11 hb'
    injection hb' with e12 hb'
    have h4 := (G.p12 e12.symm).2
    subst h4
    exact HQ.out _ _ _ _ _ _ _ _ _ _ _ _ _ _ (G.p11 e11.symm) G.below
  · exact ⟨Below.refl _ _, (fun h => by cases h), (fun h => by cases h), (fun h => by cases h), (fun h => by cases h), (fun h => by cases h), (fun h => by cases h), (fun h => by cases h), (fun h => by cases h), (fun h => by cases h), (fun h => by cases h), (fun h => by cases h), (fun h => by cases h), (fun h => by cases h), (fun h => by cases h), (fun h => by cases h)⟩
end Go.Proofs.YtakamedgdiffbaaGreatDoor.RefsC
namespace Go.Proofs.YtakamedgdiffbaaGreatDoor.RefsC
set_option linter.unusedVariables false
open Go.RowKit Go.Proofs.YtakamedgdiffbaaGreatDoor.NumC
open Go.Proofs.YtakamedgdiffbaaGreatDoor.TreeC (addr_add0 addr_add Kept Kept.refl eq_rect below_grown)
def RPost (B : Nat) (v : Value) (l : List Rc) (w : World) (e : Ending) (w' : World) : Prop := ∃ v', e = .returned v' ∧ OS w' B v' l ∧ Below w.heap.size w w' ∧ (v' = v ∨ OS w' w.heap.size v' l)
set_option maxHeartbeats 2000000 in
set_option maxRecDepth 100000 in
theorem rPut (B : Nat) (v : Value) (l : List Rc) (x : Rc) (w : World) (hl : l.length ≤ 100000) (hO : OS w B v l) (hB : B ≤ w.heap.size) :
    Calls Tryz.prog 31 #[v, .agg #[.int .i64 x.a, .int .i64 x.b, .int .i64 x.c, .int .i64 x.d]] w (RPost B v (putL l x) w) := by
  obtain ⟨A, c, rfl, hcl, hnn, hAA⟩ : ∃ A c, v = .slice A l.length c ∧ l.length ≤ c ∧ (A = none → c = 0) ∧ (∀ a, A = some a → ∃ g o, a = ⟨g, o, none⟩) := by
    rcases hO.2 with ⟨h1, h2⟩ | ⟨g, cap, cur, h1, -, -, h2, -⟩
    · exact ⟨none, 0, by rw [h1, h2], by omega, fun _ => rfl, fun a h => by cases h⟩
    · exact ⟨some ⟨g, 0, none⟩, cap, h1, h2, (fun h => by cases h), fun a h => by cases h; exact ⟨g, 0, rfl⟩⟩
  have hR := hO.rat.2
  have HO := Lib.hid hO
  clear hO
  have hbx := RBox.new w x
  have bW : Below w.heap.size w (w.alloc (.cells #[.int .i64 x.a, .int .i64 x.b, .int .i64 x.c, .int .i64 x.d] 51)) := (Below.refl _ w).alloc (Nat.le_refl _) _
  have hR1 := (hR.below bW).mono bW.size
  have HR := Lib.hid hR1
  have HBW := Lib.hid bW
  have HBX := Lib.hid hbx
  have hs := hbx.lt
  clear hR hR1 bW hbx
  go_enter Tryz.func31, Tryz.ntmps31
  go_wp2_with fail
  generalize (w.alloc (.cells #[.int .i64 x.a, .int .i64 x.b, .int .i64 x.c, .int .i64 x.d] 51)) = W at *
  generalize hbs : w.heap.size = b at *
  go_loopw [5] (fun iv wr => ∃ k : Nat, k ≤ l.length ∧ iv = .int .i64 k ∧ Hid (Below W.heap.size W wr ∧ (∀ i, i < k → ∃ y, l[i]? = some y ∧ aheadB y x = true))) (fun iv _ => l.length - (intOf iv).toNat)
  case atStart => exact ⟨0, Nat.zero_le _, rfl, Lib.hid ⟨Below.refl _ _, fun i hi => absurd hi (Nat.not_lt_zero _)⟩⟩
  case round =>
    obtain ⟨k, hk, rfl, HR2⟩ := hrel
    obtain ⟨hb, hn⟩ := HR2.out
    have hx2 := HBX.out.below hb hs
    obtain ⟨d0, d1, d2, d3⟩ := hx2.cells
    by_cases hlt : k < l.length
    · have hd1 : (k : Int) < (l.length : Int) := by omega
      obtain ⟨y, hy⟩ := nth_some l k hlt
      obtain ⟨g0, o, rfl, hg0, c0, c1, c2, c3⟩ := (HR.out.below hb).nth k y hy
      have HB := Lib.hid hb
      have HN := Lib.hid hn
      have HY := Lib.hid hy
      clear hb hn hy hx2
      go_wp2_with fail
      refine region_tail 10 (by kernel_rfl) (by kernel_rfl) ?_
      simp only [List.take_succ_cons, List.take_zero, List.drop_succ_cons, List.drop_zero]
      replace d0 : wr.drew.cell? ⟨b, 0, none⟩ = some (.int .i64 x.a) := d0
      replace d1 : wr.drew.cell? ⟨b, 1, none⟩ = some (.int .i64 x.b) := d1
      replace d2 : wr.drew.cell? ⟨b, 2, none⟩ = some (.int .i64 x.c) := d2
      replace d3 : wr.drew.cell? ⟨b, 3, none⟩ = some (.int .i64 x.d) := d3
      replace c0 : wr.drew.cell? ⟨g0, o + k * 4, none⟩ = some (.int .i64 y.a) := c0
      replace c1 : wr.drew.cell? ⟨g0, o + k * 4 + 1, none⟩ = some (.int .i64 y.b) := c1
      replace c2 : wr.drew.cell? ⟨g0, o + k * 4 + 2, none⟩ = some (.int .i64 y.c) := c2
      replace c3 : wr.drew.cell? ⟨g0, o + k * 4 + 3, none⟩ = some (.int .i64 y.d) := c3
      replace HB : Hid (Below W.heap.size W wr.drew) := Lib.hid (below_drew HB.out)
      generalize wr.drew = V at *
      iterate 10 still_step
      refine wpStill_nil ?_
      go_wp2_with fail
      refine (rAhead y x _).mono ?_; rintro e w5 ⟨rfl, hb5⟩
      have HB5 := Lib.hid (HB.out.trans (hb5.mono HB.out.size))
      have hx5 := HBX.out.below HB5.out hs
      have hr5 := HR.out.below HB5.out
      obtain ⟨g9, o9, e9, -, c0, c1, c2, c3⟩ := hr5.nth k y HY.out
      obtain ⟨e91, e92⟩ : g9 = g0 ∧ o9 = o := by injection e9 with e9; injection e9 with e1 e2; exact ⟨e1.symm, e2.symm⟩
      subst e91 e92
      obtain ⟨d0, d1, d2, d3⟩ := hx5.cells
      clear hb5 e9 hx5 HB
      cases hah : aheadB y x
      · have HAH := Lib.hid hah
        clear hah
        have eN := eq_rc y x
        have hpl : placeL l x = k := place_of HN.out (Or.inr ⟨y, HY.out, HAH.out⟩)
        have hput := put_at l x
        rw [hpl, HY.out] at hput
        have HW : Hid (Below w.heap.size w w5) := Lib.hid (by rw [hbs]; exact HBW.out.trans (HB5.out.mono (Nat.le_of_lt hs)))
        clear hpl
        by_cases hxy : y = x
        · rw [decide_eq_true hxy] at eN
          have HP : Hid (putL l x = l) := Lib.hid (by rw [hput, if_pos (by rw [hxy])])
          clear hr5 hput hxy
          go_wp2_with fail
          go_quiet (fail)
          go_wp2_with fail
          go_ret
          exact ⟨_, rfl, by rw [HP.out]; exact (HO.out.below HW.out).below ⟨rfl, rfl, rfl, Nat.le_refl _, fun _ _ => rfl⟩, below_drewN' HW.out _, Or.inl rfl⟩
        · rw [decide_eq_false hxy] at eN
          have HRR := Lib.hid (hr5.mono HB5.out.size)
          have HP : Hid (putL l x = l.take k ++ [x] ++ l.drop k) := Lib.hid (by rw [hput, if_neg (fun e => hxy (Option.some.inj e)), List.append_assoc]; rfl)
          have hsz : Hid (w.heap.size ≤ w5.heap.size) := Lib.hid HW.out.size
          have hXX := Lib.hid (HBX.out.below HB5.out hs)
          clear hr5 hput hxy
          go_wp2_with fail
          go_quiet (fail)
          go_wp2_with fail
          refine put_region hl hk hcl hnn hAA (HRR.out.below ⟨rfl, rfl, rfl, Nat.le_refl _, fun _ _ => rfl⟩) hXX.out ?_
          intro v33 v34 v35 v36 v37 v38 v39 v40 v41 v42 v43 v44 v4 u ho hb
          have HF : Hid (RPost B (.slice (some ⟨g9, o9, none⟩) l.length c) (putL l x) w (.returned v4) u) := Lib.hid ⟨_, rfl, by rw [HP.out]; exact (OS.mono ho (Nat.le_trans (by omega) hsz.out)), by first | exact (below_drewN' HW.out _).trans (Below.mono hb hsz.out) | exact (below_drewN' (below_drewN' HW.out _) _).trans (Below.mono hb hsz.out), Or.inr (by rw [HP.out]; exact OS.mono ho hsz.out)⟩
          clear ho hb
          go_wp2_with fail
          go_ret
          exact HF.out
      · have HAH := Lib.hid hah
        clear hah c0 c1 c2 c3 d0 d1 d2 d3 hr5
        go_wp2_with fail
        go_roundw
        case rel =>
          refine ⟨k + 1, by omega, by go_num, Lib.hid ⟨HB5.out, fun i hi => ?_⟩⟩
          by_cases e : i = k
          · subst e; exact ⟨y, HY.out, HAH.out⟩
          · exact HN.out i (by omega)
        case measure => simp [intOf]; omega
    · have hd1 : ¬ (k : Int) < (l.length : Int) := by omega
      have hke : k = l.length := by omega
      have hpl : placeL l x = k := place_of hn (Or.inl hke)
      have hput := put_at l x
      rw [hpl, List.getElem?_eq_none (by omega), if_neg (fun e => by cases e)] at hput
      have HP : Hid (putL l x = l.take k ++ [x] ++ l.drop k) := Lib.hid (by rw [hput, List.append_assoc]; rfl)
      have HW : Hid (Below w.heap.size w wr) := Lib.hid (by rw [hbs]; exact HBW.out.trans (hb.mono (Nat.le_of_lt hs)))
      have hsz : Hid (w.heap.size ≤ wr.heap.size) := Lib.hid HW.out.size
      have HRR := Lib.hid ((HR.out.below hb).mono hb.size)
      have hXX := Lib.hid hx2
      clear hb hn hx2 hpl hput hke
      go_wp2_with fail
      go_quiet (fail)
      go_wp2_with fail
      go_quiet (fail)
      go_wp2_with fail
      refine put_region hl hk hcl hnn hAA (HRR.out.below ⟨rfl, rfl, rfl, Nat.le_refl _, fun _ _ => rfl⟩) hXX.out ?_
      intro v33 v34 v35 v36 v37 v38 v39 v40 v41 v42 v43 v44 v4 u ho hb
      have HF : Hid (RPost B (.slice A l.length c) (putL l x) w (.returned v4) u) := Lib.hid ⟨_, rfl, by rw [HP.out]; exact (OS.mono ho (Nat.le_trans (by omega) hsz.out)), by first | exact (below_drewN' HW.out _).trans (Below.mono hb hsz.out) | exact (below_drewN' (below_drewN' HW.out _) _).trans (Below.mono hb hsz.out), Or.inr (by rw [HP.out]; exact OS.mono ho hsz.out)⟩
      clear ho hb
      go_wp2_with fail
      go_ret
      exact HF.out
end Go.Proofs.YtakamedgdiffbaaGreatDoor.RefsC
