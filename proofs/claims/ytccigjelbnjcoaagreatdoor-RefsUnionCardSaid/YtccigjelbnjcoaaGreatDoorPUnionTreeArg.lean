/-
  An argument that is a tree: its cells, and its Args as a forest in memory.
-/
import Derived.Test.YtccigjelbnjcoaaGreatDoorPUnionTreeP8
import Derived.Test.YtccigjelbnjcoaaGreatDoorPUnionNumO
namespace Go.Proofs.YtccigjelbnjcoaaGreatDoor.TreeC
set_option linter.unusedVariables false
open Go.ChangeShapes Go.WideShapes Go.ChangeAt Go.RowKit Go.Proofs.YtccigjelbnjcoaaGreatDoor.NumC
theorem addr_add2 (g o i j : Nat) : ((⟨g, o, none⟩ : Addr).add i).add j = ⟨g, o + i + j, none⟩ := by rw [addr_add, addr_add]
section
variable {H : Type} {enc : TypeId × Value → H} {w : World} {base : Nat} {spare : Nat → Bool} {held : Bool}
theorem forest_of {g o len : Nat} (hn : ∀ i, i < len → ∃ (f : Fld) (A : Option Addr) (c : Nat) (kd : Fo), KidsAt w (fun b => b < w.heap.size) kd A ∧
      w.cell? ⟨g, o + i * 10, none⟩ = some (.int .i64 f.k) ∧ w.cell? ⟨g, o + i * 10 + 1, none⟩ = some (.int .i64 f.vk) ∧ w.cell? ⟨g, o + i * 10 + 2, none⟩ = some (.int .i64 f.vn) ∧ w.cell? ⟨g, o + i * 10 + 3, none⟩ = some (.string f.vs) ∧
      w.cell? ⟨g, o + i * 10 + 4, none⟩ = some (.int .i64 f.r1) ∧ w.cell? ⟨g, o + i * 10 + 5, none⟩ = some (.int .i64 f.r2) ∧ w.cell? ⟨g, o + i * 10 + 6, none⟩ = some (.int .i64 f.r3) ∧ w.cell? ⟨g, o + i * 10 + 7, none⟩ = some (.int .i64 f.r4) ∧
      w.cell? ⟨g, o + i * 10 + 8, none⟩ = some (.string f.op) ∧ w.cell? ⟨g, o + i * 10 + 9, none⟩ = some (.slice A kd.len c)) :
    ∀ j, j ≤ len → ∃ fo : Fo, fo.len = j ∧ RowAt w (fun b => b < w.heap.size) fo g (o + (len - j) * 10) := by
  intro j
  induction j with
  | zero => intro _; exact ⟨.nil, rfl, trivial⟩
  | succ j ih =>
    intro hj
    obtain ⟨fo, hl, hr⟩ := ih (by omega)
    obtain ⟨f, A, c, kd, hk, h0, h1, h2, h3, h4, h5, h6, h7, h8, h9⟩ := hn (len - (j + 1)) (by omega)
    refine ⟨.cons f kd fo, by simp only [Fo.len, hl], ⟨World.block_lt_of_cell? w _ h0, h0, h1, h2, h3, h4, h5, h6, h7, h8⟩, ⟨A, c, h9, hk⟩, ?_⟩
    rwa [show o + (len - (j + 1)) * 10 + 10 = o + (len - j) * 10 from by omega]
theorem ten_cells {cs : List Value} {v0 v1 v2 v3 v4 v5 v6 v7 v8 v9 : Value} (hl : cs.length = 10) (h0 : cs[0]? = some v0) (h1 : cs[1]? = some v1) (h2 : cs[2]? = some v2) (h3 : cs[3]? = some v3) (h4 : cs[4]? = some v4) (h5 : cs[5]? = some v5) (h6 : cs[6]? = some v6) (h7 : cs[7]? = some v7) (h8 : cs[8]? = some v8) (h9 : cs[9]? = some v9) :
    cs = [v0, v1, v2, v3, v4, v5, v6, v7, v8, v9] := by
  apply List.ext_getElem?
  intro i
  by_cases hi : i < 10
  · have h10 : i = 0 ∨ i = 1 ∨ i = 2 ∨ i = 3 ∨ i = 4 ∨ i = 5 ∨ i = 6 ∨ i = 7 ∨ i = 8 ∨ i = 9 := by omega
    rcases h10 with rfl | rfl | rfl | rfl | rfl | rfl | rfl | rfl | rfl | rfl <;> assumption
  · rw [List.getElem?_eq_none (by omega), List.getElem?_eq_none (by simp; omega)]
theorem cell_text {fuel : Nat} {x : DataW H × List MemPlace} {e : TypeId} (he : Tryz.prog.underlying e = some .string) {o : Nat} {l : List Value} (h : DataW.trod enc Tryz.prog w base spare held fuel e ((l.drop o).take 1) = some x) : ∃ s, l[o]? = some (.string s) ∧ s.size ≤ maxLen := by
  obtain ⟨s, h1, -, h2⟩ := DataW.trod_string he h
  refine ⟨s, ?_, h2⟩
  have : ((l.drop o).take 1)[0]? = some (.string s) := by rw [h1]; rfl
  rwa [List.getElem?_take_of_lt (by omega), List.getElem?_drop, Nat.add_zero] at this
set_option maxRecDepth 100000 in
theorem node_open : ∀ (fuel : Nat) (cs : List Value) (x : DataW H × List MemPlace), DataW.trod enc Tryz.prog w base spare held fuel 30 cs = some x →
    ∃ (f : Fld) (A : Option Addr) (c : Nat) (kd : Fo), cs = [.int .i64 f.k, .int .i64 f.vk, .int .i64 f.vn, .string f.vs, .int .i64 f.r1, .int .i64 f.r2, .int .i64 f.r3, .int .i64 f.r4, .string f.op, .slice A kd.len c] ∧ KidsAt w (fun b => b < w.heap.size) kd A := by
  intro fuel
  induction fuel using Nat.strongRecOn with
  | _ fuel ih =>
    intro cs x h
    have hN := Tryz.underlying30
    obtain ⟨xs, n, rfl, -, hlen, hxs, hf⟩ := DataW.trod_struct hN h
    have hl10 : cs.length = 10 := hlen.trans (by kernel_rfl)
    obtain ⟨y0, n0, t0⟩ := struct_sub (e := 3) (o := 0) (c := 1) (i := 0) hN h ⟨_, rfl, rfl, rfl⟩ (by kernel_rfl)
    obtain ⟨k, g0, -⟩ := cell_int Tryz.underlying3 t0
    obtain ⟨y1, n1, tV⟩ := struct_sub (e := 23) (o := 1) (c := 3) (i := 1) hN h ⟨_, rfl, rfl, rfl⟩ (by kernel_rfl)
    have hV := Tryz.underlying23
    obtain ⟨_, _, tV0⟩ := struct_sub (e := 3) (o := 0) (c := 1) (i := 0) hV tV ⟨_, rfl, rfl, rfl⟩ (by kernel_rfl)
    obtain ⟨vk, g1, -⟩ := cell_int Tryz.underlying3 tV0
    obtain ⟨_, _, tV1⟩ := struct_sub (e := 2) (o := 1) (c := 1) (i := 1) hV tV ⟨_, rfl, rfl, rfl⟩ (by kernel_rfl)
    obtain ⟨vn, g2, -⟩ := cell_int Tryz.underlying2 tV1
    obtain ⟨_, _, tV2⟩ := struct_sub (e := 9) (o := 2) (c := 1) (i := 2) hV tV ⟨_, rfl, rfl, rfl⟩ (by kernel_rfl)
    obtain ⟨vs, g3, -⟩ := cell_text Tryz.underlying9 tV2
    obtain ⟨y2, n2, tR⟩ := struct_sub (e := 27) (o := 4) (c := 4) (i := 2) hN h ⟨_, rfl, rfl, rfl⟩ (by kernel_rfl)
    have hR := Tryz.underlying27
    obtain ⟨_, _, tR0⟩ := struct_sub (e := 25) (o := 0) (c := 2) (i := 0) hR tR ⟨_, rfl, rfl, rfl⟩ (by kernel_rfl)
    obtain ⟨_, _, tR1⟩ := struct_sub (e := 25) (o := 2) (c := 2) (i := 1) hR tR ⟨_, rfl, rfl, rfl⟩ (by kernel_rfl)
    have hD := Tryz.underlying25
    obtain ⟨_, _, tA0⟩ := struct_sub (e := 3) (o := 0) (c := 1) (i := 0) hD tR0 ⟨_, rfl, rfl, rfl⟩ (by kernel_rfl)
    obtain ⟨r1, g4, -⟩ := cell_int Tryz.underlying3 tA0
    obtain ⟨_, _, tA1⟩ := struct_sub (e := 3) (o := 1) (c := 1) (i := 1) hD tR0 ⟨_, rfl, rfl, rfl⟩ (by kernel_rfl)
    obtain ⟨r2, g5, -⟩ := cell_int Tryz.underlying3 tA1
    obtain ⟨_, _, tA2⟩ := struct_sub (e := 3) (o := 0) (c := 1) (i := 0) hD tR1 ⟨_, rfl, rfl, rfl⟩ (by kernel_rfl)
    obtain ⟨r3, g6, -⟩ := cell_int Tryz.underlying3 tA2
    obtain ⟨_, _, tA3⟩ := struct_sub (e := 3) (o := 1) (c := 1) (i := 1) hD tR1 ⟨_, rfl, rfl, rfl⟩ (by kernel_rfl)
    obtain ⟨r4, g7, -⟩ := cell_int Tryz.underlying3 tA3
    obtain ⟨y3, n3, tO⟩ := struct_sub (e := 9) (o := 8) (c := 1) (i := 3) hN h ⟨_, rfl, rfl, rfl⟩ (by kernel_rfl)
    obtain ⟨op, g8, -⟩ := cell_text Tryz.underlying9 tO
    have g1' : cs[1]? = some (.int .i64 vk) := sub_cell g1
    have g2' : cs[2]? = some (.int .i64 vn) := sub_cell g2
    have g3' : cs[3]? = some (.string vs) := sub_cell g3
    have g4' : cs[4]? = some (.int .i64 r1) := sub_cell (sub_cell g4)
    have g5' : cs[5]? = some (.int .i64 r2) := sub_cell (sub_cell g5)
    have g6' : cs[6]? = some (.int .i64 r3) := sub_cell (sub_cell g6)
    have g7' : cs[7]? = some (.int .i64 r4) := sub_cell (sub_cell g7)
    have h9 : DataW.trod enc Tryz.prog w base spare held n 28 ((cs.drop 9).take 1) = xs[4]? := hf 4 _ rfl
    rw [List.getElem?_eq_getElem (by rw [hxs]; decide)] at h9
    have hC : Tryz.prog.cellsOf 30 = 10 := by kernel_rfl
    have g9 : ∀ v, (cs.drop 9).take 1 = [v] → cs[9]? = some v := fun v e => by
      have : ((cs.drop 9).take 1)[0]? = some v := by rw [e]; rfl
      rwa [List.getElem?_take_of_lt (by omega), List.getElem?_drop, Nat.add_zero] at this
    rcases DataW.trod_slice Tryz.underlying28 h9 with ⟨e9, -⟩ | ⟨a, len, cap, elems, rest, n', rfl, e9, -, hb, hle, hcap, hel, hall, -, -⟩
    · exact ⟨⟨k, vk, vn, vs, r1, r2, r3, r4, op⟩, none, 0, .nil, ten_cells hl10 g0 g1' g2' g3' g4' g5' g6' g7' g8 (g9 _ e9), Or.inl rfl⟩
    · rw [hC] at hall
      cases len with
      | zero => exact ⟨⟨k, vk, vn, vs, r1, r2, r3, r4, op⟩, some a, cap, .nil, ten_cells hl10 g0 g1' g2' g3' g4' g5' g6' g7' g8 (g9 _ e9), Or.inl rfl⟩
      | succ len =>
        have key : ∀ i, i < len + 1 → ∃ cs', (∀ j, j < 10 → w.cell? ((a.add (i * 10)).add j) = cs'[j]?) ∧ ∃ x', DataW.trod enc Tryz.prog w base spare held n' 30 cs' = some x' := fun i hi => by
          have h1 := hall i hi
          rw [List.getElem?_eq_getElem (by omega)] at h1
          obtain ⟨cs', h2, h3⟩ := Option.bind_eq_some_iff.1 h1
          exact ⟨cs', (World.cells?_some h2).2.2, _, h3⟩
        have hspot : a = ⟨a.block, a.off, none⟩ := by
          obtain ⟨cs', h1, x', h2⟩ := key 0 (by omega)
          obtain ⟨f, A, c, kd, e, -⟩ := ih n' (by omega) cs' x' h2
          have h3 := h1 0 (by omega)
          rw [e, Nat.zero_mul] at h3
          have h4 : w.cell? a = some (.int .i64 f.k) := h3
          obtain ⟨b, o, sp⟩ := a
          cases sp with
          | none => rfl
          | some s => exact absurd h4 (by unfold World.cell?; split <;> simp)
        obtain ⟨fo, hfl, hfr⟩ := forest_of (w := w) (g := a.block) (o := a.off) (len := len + 1) (fun i hi => by
          obtain ⟨cs', h1, x', h2⟩ := key i hi
          obtain ⟨f, A, c, kd, e, hk⟩ := ih n' (by omega) cs' x' h2
          have h3 : ∀ j, j < 10 → w.cell? ⟨a.block, a.off + i * 10 + j, none⟩ = cs'[j]? := fun j hj => by
            have := h1 j hj
            rwa [hspot, addr_add2] at this
          rw [e] at h3
          exact ⟨f, A, c, kd, hk, h3 0 (by omega), h3 1 (by omega), h3 2 (by omega), h3 3 (by omega), h3 4 (by omega), h3 5 (by omega), h3 6 (by omega), h3 7 (by omega), h3 8 (by omega), h3 9 (by omega)⟩) (len + 1) (Nat.le_refl _)
        refine ⟨⟨k, vk, vn, vs, r1, r2, r3, r4, op⟩, some a, cap, fo, ?_, Or.inr ⟨a.block, a.off, by rw [← hspot], by simpa using hfr⟩⟩
        rw [hfl]
        exact ten_cells hl10 g0 g1' g2' g3' g4' g5' g6' g7' g8 (g9 _ e9)
set_option maxRecDepth 100000 in
theorem open_node {r : Reach} {b0 : Nat} {v : Value} {d : DataW H} {p : List MemPlace} (hv : Value.okWide Tryz.prog w r b0 30 v) (h : DataW.Trod enc Tryz.prog w base spare held 30 v d p) :
    ∃ (a : Nd) (A : Option Addr) (c : Nat), v = nodeV a.f A a.kids.len c ∧ KidsAt w (fun b => b < w.heap.size) a.kids A := by
  obtain ⟨cs, y, m, rfl, -, hm⟩ := open_struct Tryz.underlying30 (show Tryz.prog.cellsOf 30 = 10 by kernel_rfl) hv h
  obtain ⟨f, A, c, kd, e, hk⟩ := node_open m _ _ hm
  refine ⟨⟨f, kd⟩, A, c, ?_, hk⟩
  unfold nodeV
  congr 1
  exact Array.ext' (by rw [e])
end
end Go.Proofs.YtccigjelbnjcoaaGreatDoor.TreeC
