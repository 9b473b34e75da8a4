/-
  Rows of cells of the grid in memory; contracts: whether rectangles have one of them, whether a row has a cell, whether two rows are alike.
-/
import Derived.Test.YtakamedgdiffbaaGreatDoorPPlaysRowsA
import Derived.Test.YtakamedgdiffbaaGreatDoorPPlaysGraphM
import Derived.Test.YtakamedgdiffbaaGreatDoorPPlaysTreeZ2
namespace Go.Proofs.YtakamedgdiffbaaGreatDoor.GraphC
set_option linter.unusedVariables false
open Go.RowKit Go.Proofs.YtakamedgdiffbaaGreatDoor.NumC Go.Proofs.YtakamedgdiffbaaGreatDoor.RowsC
open Go.Proofs.YtakamedgdiffbaaGreatDoor.RefsC (Rc RAt hitsL)
open Go.Proofs.YtakamedgdiffbaaGreatDoor.TreeC (eq_addr)
structure Pt where
  r : Int
  c : Int
  deriving DecidableEq
def fP (a : Pt) : List Value := [.int .i64 a.r, .int .i64 a.c]
def hitP (e : List Rc) (a : Pt) : Bool := hitsL e a.r a.c
theorem kindP : Kind fP 2 23 35 where
  row := ⟨fun _ => rfl, fun x u hu => by
    simp only [fP, List.mem_cons, List.not_mem_nil, or_false] at hu
    rcases hu with rfl | rfl <;> rfl, by decide⟩
  under := Tryz.underlying23
  info := ⟨.agg #[.int .i64 0, .int .i64 0], 16, by kernel_rfl, rfl, by decide⟩
theorem Reads.pt {w : World} {B : Nat} {l : List Pt} {A : Option Addr} (h : Reads fP 2 w B l A) (i : Nat) (x : Pt) (hx : l[i]? = some x) :
    ∃ g o, A = some ⟨g, o, none⟩ ∧ g < B ∧ w.cell? ⟨g, o + i * 2, none⟩ = some (.int .i64 x.r) ∧ w.cell? ⟨g, o + i * 2 + 1, none⟩ = some (.int .i64 x.c) := by
  obtain ⟨g, o, e, hg, h⟩ := h.nth i x hx
  exact ⟨g, o, e, hg, h 0 _ rfl, h 1 _ rfl⟩
theorem pt_eq {x y : Pt} : (x.r = y.r ∧ x.c = y.c) ↔ x = y := by
  constructor
  · obtain ⟨a, b⟩ := x; obtain ⟨a', b'⟩ := y
    rintro ⟨h1, h2⟩
    simp only at h1 h2
    rw [h1, h2]
  · rintro rfl; exact ⟨rfl, rfl⟩
theorem eqP (x y : Pt) (W : World) : (binOp .eql 35 (.agg #[.int .i64 x.r, .int .i64 x.c]) (.agg #[.int .i64 y.r, .int .i64 y.c])).run Tryz.prog W = .ok (.bool (decide (x = y))) W := by
  have h := eq_addr x.r x.c y.r y.c W
  rw [show decide (x.r = y.r ∧ x.c = y.c) = decide (x = y) from decide_eq_decide.2 pt_eq] at h
  exact h
theorem neqP (x y : Pt) (W : World) : (binOp .neq 35 (.agg #[.int .i64 x.r, .int .i64 x.c]) (.agg #[.int .i64 y.r, .int .i64 y.c])).run Tryz.prog W = .ok (.bool (!decide (x = y))) W := by
  have h := eqP x y W
  rw [run_eql_struct] at h
  rw [run_neq_struct]
  cases hr : (Op.equalIn 10000 35 (.agg #[.int .i64 x.r, .int .i64 x.c]) (.agg #[.int .i64 y.r, .int .i64 y.c])).run Tryz.prog W with
  | ok v w' =>
    rw [hr] at h
    simp only [Result.andThen, Result.ok.injEq, Value.bool.injEq] at h ⊢
    obtain ⟨h1, h2⟩ := h
    rw [h1]; simp [h2]
  | halt e w' => rw [hr] at h; cases h
theorem take_ne {l m : List Pt} {k : Nat} {x y : Pt} (hx : l[k]? = some x) (hy : m[k]? = some y) (h : x ≠ y) : l ≠ m := by
  rintro rfl; rw [hx] at hy; exact h (Option.some.inj hy)
set_option maxHeartbeats 1000000 in
set_option maxRecDepth 100000 in
theorem rhits (e : List Rc) (l : List Pt) (A C : Option Addr) (c d : Nat) (w : World) (he : e.length ≤ 1000000) (hl : l.length ≤ 1000000) (hE : RAt w w.heap.size e A) (hL : Reads fP 2 w w.heap.size l C) :
    Calls Tryz.prog 38 #[.slice A e.length c, .slice C l.length d] w fun x w' => x = .returned (.bool (anyB hitP e l)) ∧ Below w.heap.size w w' := by
  have HE := Lib.hid hE
  have HL := Lib.hid hL
  clear hE hL
  go_enter Tryz.func38, Tryz.ntmps38
  go_wp2_with fail
  go_loopw [5] (fun iv wr => ∃ j : Nat, j ≤ l.length ∧ iv = .int .i64 j ∧ Hid (Below w.heap.size w wr ∧ (l.take j).any (hitP e) = false)) (fun iv _ => l.length - (intOf iv).toNat)
  case atStart => exact ⟨0, Nat.zero_le _, rfl, Lib.hid ⟨Below.refl _ _, rfl⟩⟩
  case round =>
    obtain ⟨j, hk, rfl, HR2⟩ := hrel
    obtain ⟨hb, hn⟩ := HR2.out
    by_cases hlt : j < l.length
    · have hd1 : (j : Int) < (l.length : Int) := by omega
      obtain ⟨x, hx⟩ := RowsC.at_some l j hlt
      obtain ⟨g0, o, rfl, hg0, c0, c1⟩ := Reads.pt (HL.out.below hb) j x hx
      have HB := Lib.hid hb
      have HN : Hid ((l.take (j + 1)).any (hitP e) = hitP e x) := Lib.hid (by rw [List.take_add_one, hx, List.any_append, hn]; simp)
      have HX := Lib.hid hx
      have hE2 := (HE.out.below hb).mono hb.size
      clear hb hn hx
      go_wp2_with fail
      refine (RefsC.rHits e A c x.r x.c _ he hE2).mono ?_; rintro e5 w5 ⟨rfl, hb5⟩
      have HB5 := Lib.hid (HB.out.trans (hb5.mono HB.out.size))
      have HQ : Hid (hitsL e x.r x.c = hitP e x) := Lib.hid rfl
      clear hb5 c0 c1 hE2
      rw [HQ.out]
      cases hpx : hitP e x
      · rw [hpx] at HN
        go_wp2_with fail
        go_roundw
        case rel => exact ⟨j + 1, by omega, by go_num, Lib.hid ⟨HB5.out, HN.out⟩⟩
        case measure => simp [intOf]; omega
      · have HY := Lib.hid hpx
        clear hpx
        go_wp2_with fail
        go_ret
        refine ⟨ret1 ?_, HB5.out⟩
        exact (List.any_eq_true.2 ⟨x, List.mem_of_getElem? HX.out, HY.out⟩).symm
    · have hd1 : ¬ (j : Int) < (l.length : Int) := by omega
      obtain rfl : j = l.length := by omega
      rw [List.take_length] at hn
      have HN := Lib.hid hn
      have HB := Lib.hid hb
      clear hn hb
      go_wp2_with fail
      go_ret
      exact ⟨ret1 HN.out.symm, HB.out⟩
set_option maxHeartbeats 1000000 in
set_option maxRecDepth 100000 in
theorem rhas (l : List Pt) (A : Option Addr) (c : Nat) (a : Pt) (w : World) (hl : l.length ≤ 1000000) (hR : Reads fP 2 w w.heap.size l A) :
    Calls Tryz.prog 48 #[.slice A l.length c, .agg #[.int .i64 a.r, .int .i64 a.c]] w fun e w' => e = .returned (.bool (decide (a ∈ l))) ∧ Below w.heap.size w w' := by
  have bW : Below w.heap.size w (w.alloc (.cells #[.int .i64 a.r, .int .i64 a.c] 35)) := (Below.refl _ w).alloc (Nat.le_refl _) _
  have hs : w.heap.size < (w.alloc (.cells #[.int .i64 a.r, .int .i64 a.c] 35)).heap.size := by simp
  have hX : Boxed fP 35 (w.alloc (.cells #[.int .i64 a.r, .int .i64 a.c] 35)) w.heap.size a := Boxed.new w a
  have HR := Lib.hid ((hR.below bW).mono bW.size)
  clear hR
  go_enter Tryz.func48, Tryz.ntmps48
  go_wp2_with fail
  generalize (w.alloc (.cells #[.int .i64 a.r, .int .i64 a.c] 35)) = W at *
  have HBW := Lib.hid bW
  have HX := Lib.hid hX
  clear bW hX
  go_loopw [5] (fun iv wr => ∃ j : Nat, j ≤ l.length ∧ iv = .int .i64 j ∧ Hid (Below W.heap.size W wr ∧ a ∉ l.take j)) (fun iv _ => l.length - (intOf iv).toNat)
  case atStart => exact ⟨0, Nat.zero_le _, rfl, Lib.hid ⟨Below.refl _ _, by simp⟩⟩
  case round =>
    obtain ⟨j, hk, rfl, HR2⟩ := hrel
    obtain ⟨hb, hn⟩ := HR2.out
    by_cases hlt : j < l.length
    · have hd1 : (j : Int) < (l.length : Int) := by omega
      obtain ⟨x, hx⟩ := RowsC.at_some l j hlt
      obtain ⟨g0, o, rfl, hg0, c0, c1⟩ := Reads.pt (HR.out.below hb) j x hx
      have hX2 := HX.out.below hb hs
      have e0 := hX2.cells 0 _ rfl
      have e1 := hX2.cells 1 _ rfl
      have HB := Lib.hid hb
      have HN := Lib.hid hn
      have HY := Lib.hid hx
      have eN := eqP x a
      clear hb hn hx hX2
      cases hxa : decide (x = a)
      · have HXA := Lib.hid (of_decide_eq_false hxa)
        rw [hxa] at eN
        clear hxa
        go_wp2_with fail
        go_quiet (fail)
        go_wp2_with fail
        go_roundw
        case rel => exact ⟨j + 1, by omega, by go_num, Lib.hid ⟨below_drewN' HB.out _, by rw [List.take_add_one, HY.out, List.mem_append]; rintro (h | h); exact HN.out h; exact HXA.out (Eq.symm (show a = x by simpa using h))⟩⟩
        case measure => simp [intOf]; omega
      · have HXA := Lib.hid (of_decide_eq_true hxa)
        rw [hxa] at eN
        clear hxa
        go_wp2_with fail
        go_quiet (fail)
        go_wp2_with fail
        go_ret
        exact ⟨ret1 (decide_eq_true (show a ∈ l by rw [← HXA.out]; exact List.mem_of_getElem? HY.out)).symm, HBW.out.trans ((below_drewN' HB.out _).mono HBW.out.size)⟩
    · have hd1 : ¬ (j : Int) < (l.length : Int) := by omega
      obtain rfl : j = l.length := by omega
      rw [List.take_length] at hn
      have HN := Lib.hid hn
      have HB := Lib.hid hb
      clear hn hb
      go_wp2_with fail
      go_ret
      exact ⟨ret1 (decide_eq_false HN.out).symm, HBW.out.trans (HB.out.mono HBW.out.size)⟩
set_option maxHeartbeats 1000000 in
set_option maxRecDepth 100000 in
theorem kAddrs (l m : List Pt) (A C : Option Addr) (c d : Nat) (w : World) (hl : l.length ≤ 1000000) (hm : m.length ≤ 1000000) (hR : Reads fP 2 w w.heap.size l A) (hS : Reads fP 2 w w.heap.size m C) :
    Calls Tryz.prog 12 #[.slice A l.length c, .slice C m.length d] w fun e w' => e = .returned (.bool (decide (l = m))) ∧ Below w.heap.size w w' := by
  have HR := Lib.hid hR
  have HS := Lib.hid hS
  clear hR hS
  by_cases hlen : l.length = m.length
  · have hd0 : ((l.length : Int) != (m.length : Int)) = false := by simp [hlen]
    have HLEN := Lib.hid hlen
    go_enter Tryz.func12, Tryz.ntmps12
    go_wp2_with fail
    clear hd0
    go_loopw [5] (fun iv wr => ∃ k : Nat, k ≤ l.length ∧ iv = .int .i64 k ∧ Hid (Below w.heap.size w wr ∧ l.take k = m.take k)) (fun iv _ => l.length - (intOf iv).toNat)
    case atStart => exact ⟨0, Nat.zero_le _, rfl, Lib.hid ⟨Below.refl _ _, rfl⟩⟩
    case round =>
      obtain ⟨k, hk, rfl, HR2⟩ := hrel
      obtain ⟨hb, hn⟩ := HR2.out
      by_cases hlt : k < l.length
      · have hd1 : (k : Int) < (l.length : Int) := by omega
        have hd3 : (k : Int) < (m.length : Int) := by omega
        obtain ⟨x, hx⟩ := RowsC.at_some l k hlt
        obtain ⟨y, hy⟩ := RowsC.at_some m k (by omega)
        obtain ⟨g0, o, rfl, hg0, c0, c1⟩ := Reads.pt (HR.out.below hb) k x hx
        obtain ⟨g1, o1, rfl, hg1, d0, d1⟩ := Reads.pt (HS.out.below hb) k y hy
        have HB := Lib.hid hb
        have HN := Lib.hid hn
        have HX := Lib.hid hx
        have HY := Lib.hid hy
        have eN := neqP x y
        clear hb hn hx hy hlen
        cases hxy : decide (x = y)
        · have HXY := Lib.hid (of_decide_eq_false hxy)
          rw [hxy] at eN
          clear hxy
          go_wp2_with fail
          go_quiet (fail)
          go_wp2_with fail
          go_ret
          exact ⟨ret1 (decide_eq_false (take_ne HX.out HY.out HXY.out)).symm, below_drewN' HB.out _⟩
        · have HXY := Lib.hid (of_decide_eq_true hxy)
          rw [hxy] at eN
          clear hxy
          go_wp2_with fail
          go_quiet (fail)
          go_wp2_with fail
          go_roundw
          case rel => exact ⟨k + 1, by omega, by go_num, Lib.hid ⟨below_drewN' HB.out _, by rw [List.take_add_one, List.take_add_one, HN.out, HX.out, HY.out, HXY.out]⟩⟩
          case measure => simp [intOf]; omega
      · have hd1 : ¬ (k : Int) < (l.length : Int) := by omega
        obtain rfl : k = l.length := by omega
        rw [List.take_length, hlen, List.take_length] at hn
        have HN := Lib.hid hn
        have HB := Lib.hid hb
        have hd3 : ¬ l.length < m.length := by omega
        clear hn hb hlen
        go_wp2_with fail
        go_ret
        exact ⟨ret1 (decide_eq_true HN.out).symm, HB.out⟩
  · have hd0 : ((l.length : Int) != (m.length : Int)) = true := by simp; omega
    have HLEN : Hid (decide (l = m) = false) := Lib.hid (decide_eq_false fun e => hlen (by rw [e]))
    clear hlen
    go_enter Tryz.func12, Tryz.ntmps12
    go_wp2_with fail
    go_ret
    exact ⟨ret1 HLEN.out.symm, Below.refl _ _⟩
end Go.Proofs.YtakamedgdiffbaaGreatDoor.GraphC
namespace Go.Proofs.YtakamedgdiffbaaGreatDoor.GraphC
set_option linter.unusedVariables false
open Go.RowKit Go.Proofs.YtakamedgdiffbaaGreatDoor.NumC Go.Proofs.YtakamedgdiffbaaGreatDoor.RowsC
open Go.Proofs.YtakamedgdiffbaaGreatDoor.RefsC (Rc RAt hitsL)
abbrev Gl := List (Pt × List Rc)
structure Tp where
  r : Int
  c : Int
  A : Option Addr
  n : Nat
  k : Nat
def fT (t : Tp) : List Value := [.int .i64 t.r, .int .i64 t.c, .slice t.A t.n t.k]
theorem kindT : Kind fT 3 27 60 where
  row := ⟨fun _ => rfl, fun x u hu => by
    simp only [fT, List.mem_cons, List.not_mem_nil, or_false] at hu
    rcases hu with rfl | rfl | rfl <;> rfl, by decide⟩
  under := Tryz.underlying27
  info := ⟨.agg #[.int .i64 0, .int .i64 0, .slice none 0 0], 40, by kernel_rfl, rfl, by decide⟩
def Ties (w : World) (FP : Nat → Prop) (ts : List Tp) (G : Gl) : Prop := ts.length = G.length ∧ ∀ (i : Nat) (t : Tp) (x : Pt × List Rc), ts[i]? = some t → G[i]? = some x → x.1 = ⟨t.r, t.c⟩ ∧ t.n = x.2.length ∧ RAt w w.heap.size x.2 t.A ∧ (x.2 ≠ [] → ∀ a, t.A = some a → FP a.block)
theorem Ties.below {w w' : World} {FP : Nat → Prop} {ts : List Tp} {G : Gl} (h : Ties w FP ts G) (hb : Below w.heap.size w w') : Ties w' FP ts G :=
  ⟨h.1, fun i t x ht hx => by
    obtain ⟨h1, h2, h3, h4⟩ := h.2 i t x ht hx
    exact ⟨h1, h2, (h3.below hb).mono hb.size, h4⟩⟩
theorem Ties.mono {w : World} {FP FP' : Nat → Prop} {ts : List Tp} {G : Gl} (h : Ties w FP ts G) (hp : ∀ k, FP k → FP' k) : Ties w FP' ts G :=
  ⟨h.1, fun i t x ht hx => by
    obtain ⟨h1, h2, h3, h4⟩ := h.2 i t x ht hx
    exact ⟨h1, h2, h3, fun hne a ha => hp _ (h4 hne a ha)⟩⟩
def GSt (w : World) (FP : Nat → Prop) (b : Nat) (G : Gl) : Prop := ∃ ty A c ts, w.heap[b]? = some (.cells #[.slice A ts.length c] ty (0, 0)) ∧ Reads fT 3 w w.heap.size ts A ∧ Ties w FP ts G ∧ FP b ∧ (ts ≠ [] → ∀ a, A = some a → FP a.block)
theorem GSt.lt {w : World} {FP : Nat → Prop} {b : Nat} {G : Gl} (h : GSt w FP b G) : b < w.heap.size := by
  obtain ⟨ty, A, c, ts, h, -⟩ := h
  exact (Array.getElem?_eq_some_iff.1 h).1
theorem GSt.own {w : World} {FP : Nat → Prop} {b : Nat} {G : Gl} (h : GSt w FP b G) : FP b := by
  obtain ⟨ty, A, c, ts, -, -, -, h, -⟩ := h
  exact h
theorem GSt.mono {w : World} {FP FP' : Nat → Prop} {b : Nat} {G : Gl} (h : GSt w FP b G) (hp : ∀ k, FP k → FP' k) : GSt w FP' b G := by
  obtain ⟨ty, A, c, ts, h1, h2, h3, h4, h5⟩ := h
  exact ⟨ty, A, c, ts, h1, h2, h3.mono hp, hp _ h4, fun hne a ha => hp _ (h5 hne a ha)⟩
theorem GSt.keep {w w' : World} {FP : Nat → Prop} {b : Nat} {G : Gl} (h : GSt w FP b G) (hs : w.heap.size ≤ w'.heap.size) (hk : ∀ k, FP k → k < w.heap.size → w'.heap[k]? = w.heap[k]?) : GSt w' FP b G := by
  have hlt := h.lt
  obtain ⟨ty, A, c, ts, h1, h2, h3, h4, h5⟩ := h
  have hc : ∀ g o v, FP g → w.cell? ⟨g, o, none⟩ = some v → w'.cell? ⟨g, o, none⟩ = some v := fun g o v hg hv =>
    (World.cell?_of_block (hk g hg (World.block_lt_of_cell? w ⟨g, o, none⟩ hv))).trans hv
  refine ⟨ty, A, c, ts, (hk b h4 hlt).trans h1, ?_, ⟨h3.1, fun i t x ht hx => ?_⟩, h4, h5⟩
  · rcases h2 with h2 | ⟨g, o, e, hg, h2⟩
    · exact Or.inl h2
    · exact Or.inr ⟨g, o, e, Nat.lt_of_lt_of_le hg hs, fun i x hx j u hj => hc _ _ _ (h5 (by rintro rfl; cases hx) _ e) (h2 i x hx j u hj)⟩
  · obtain ⟨e1, e2, e3, e4⟩ := h3.2 i t x ht hx
    refine ⟨e1, e2, ?_, e4⟩
    rcases e3 with e3 | ⟨g, o, e, hg, e3⟩
    · exact Or.inl e3
    · refine Or.inr ⟨g, o, e, Nat.lt_of_lt_of_le hg hs, fun i' y hy => ?_⟩
      have hg2 := e4 (by intro e0; rw [e0] at hy; cases hy) _ e
      obtain ⟨d0, d1, d2, d3⟩ := e3 i' y hy
      exact ⟨hc _ _ _ hg2 d0, hc _ _ _ hg2 d1, hc _ _ _ hg2 d2, hc _ _ _ hg2 d3⟩
theorem GSt.below {w w' : World} {FP : Nat → Prop} {b : Nat} {G : Gl} (h : GSt w FP b G) (hb : Below w.heap.size w w') : GSt w' FP b G := h.keep hb.size fun k _ hk => hb.block k hk
theorem GSt.form {w : World} {FP : Nat → Prop} {b : Nat} {G : Gl} (h : GSt w FP b G) : ∃ A c, w.cell? ⟨b, 0, none⟩ = some (.slice A G.length c) ∧ ∀ (i : Nat) (x : Pt × List Rc), G[i]? = some x →
    ∃ g o E k, A = some ⟨g, o, none⟩ ∧ w.cell? ⟨g, o + i * 3, none⟩ = some (.int .i64 x.1.r) ∧ w.cell? ⟨g, o + i * 3 + 1, none⟩ = some (.int .i64 x.1.c) ∧ w.cell? ⟨g, o + i * 3 + 2, none⟩ = some (.slice E x.2.length k) ∧ RAt w w.heap.size x.2 E := by
  obtain ⟨ty, A, c, ts, h, h2, h3, -⟩ := h
  refine ⟨A, c, by rw [← h3.1]; simp [World.cell?, h], fun i x hx => ?_⟩
  have hi : i < ts.length := by rw [h3.1]; exact (List.getElem?_eq_some_iff.1 hx).1
  obtain ⟨t, ht⟩ := RowsC.at_some ts i hi
  obtain ⟨g, o, e, -, hc⟩ := h2.nth i t ht
  obtain ⟨e1, e2, hr, -⟩ := h3.2 i t x ht hx
  exact ⟨g, o, t.A, t.k, e, by rw [e1]; exact hc 0 _ rfl, by rw [e1]; exact hc 1 _ rfl, by rw [← e2]; exact hc 2 _ rfl, hr⟩
theorem GSt.foot {w : World} {FP : Nat → Prop} {b g o n m c k i : Nat} {G : Gl} {E : Option Addr} {x : Pt × List Rc} (h : GSt w FP b G) (hA : w.cell? ⟨b, 0, none⟩ = some (.slice (some ⟨g, o, none⟩) m c)) (hE : w.cell? ⟨g, o + i * 3 + 2, none⟩ = some (.slice E n k)) (hx : G[i]? = some x) (hne : x.2 ≠ []) : ∀ a, E = some a → FP a.block := by
  obtain ⟨ty, A, c', ts, h1, h2, h3, -, -⟩ := h
  have hi : i < ts.length := by rw [h3.1]; exact (List.getElem?_eq_some_iff.1 hx).1
  obtain ⟨t, ht⟩ := RowsC.at_some ts i hi
  obtain ⟨g', o', e, -, hc⟩ := h2.nth i t ht
  have hA2 : w.cell? ⟨b, 0, none⟩ = some (.slice A ts.length c') := by simp [World.cell?, h1]
  rw [hA2] at hA
  injection hA with hA
  injection hA with hA _ _
  rw [e] at hA
  injection hA with hA
  injection hA with hA1 hA3
  subst hA1 hA3
  have := hc 2 _ rfl
  rw [this] at hE
  injection hE with hE
  injection hE with hE _ _
  intro a ha
  exact (h3.2 i t x ht hx).2.2.2 hne a (by rw [hE]; exact ha)
def Bnd (G : Gl) : Prop := G.length ≤ 1000 ∧ ∀ x, x ∈ G → x.2.length ≤ 1000
theorem Bnd.at {G : Gl} (h : Bnd G) {i : Nat} {x : Pt × List Rc} (hx : G[i]? = some x) : x.2.length ≤ 1000 := h.2 x (List.mem_of_getElem? hx)
def CellsPost (l : List Pt) (w : World) (e : Ending) (w' : World) : Prop := ∃ v, e = .returned v ∧ Owns fP 2 35 w' w.heap.size v l ∧ Below w.heap.size w w'
set_option maxHeartbeats 1000000 in
set_option maxRecDepth 100000 in
theorem rCells {FP : Nat → Prop} (b : Nat) (G : Gl) (w : World) (hb : Bnd G) (hG : GSt w FP b G) :
    Calls Tryz.prog 14 #[.pointer (some ⟨b, 0, none⟩)] w (CellsPost (cellsL G) w) := by
  have hlt := hG.lt
  have hg1 := hb.1
  have HG := Lib.hid hG
  clear hG
  go_enter Tryz.func14, Tryz.ntmps14
  go_wp2_with fail
  go_loopw [3, 4] (fun ov iv wr => ∃ j : Nat, j ≤ G.length ∧ iv = .int .i64 j ∧ Hid (Below w.heap.size w wr ∧ Owns fP 2 35 wr w.heap.size ov (cellsL (G.take j)))) (fun _ iv _ => G.length - (intOf iv).toNat)
  case atStart => exact ⟨0, Nat.zero_le _, rfl, Lib.hid ⟨Below.refl _ _, Owns.nil _ _⟩⟩
  case round =>
    obtain ⟨j, hk, rfl, HR2⟩ := hrel
    obtain ⟨hbw, ho⟩ := HR2.out
    obtain ⟨A, c, c0, hat⟩ := (HG.out.below hbw).form
    obtain ⟨oA, oc, rfl, -⟩ := ho.form
    have hsz := hbw.size
    by_cases hj : j < G.length
    · have hd1 : (j : Int) < (G.length : Int) := by omega
      obtain ⟨x, hx⟩ := RowsC.at_some G j hj
      obtain ⟨g, o, E, k, rfl, c1, c2, c3, hr⟩ := hat j x hx
      have HB := Lib.hid hbw
      have HO := Lib.hid ho
      have HX := Lib.hid hx
      have hlen : (cellsL (G.take j)).length + 1 ≤ 100000000 := by unfold cellsL; rw [List.length_map, List.length_take]; omega
      clear hbw ho hx hr hat
      go_wp2_with (at_builtin
                   refine wpList_append_owns kindP _ rfl (.tmp 14) (.tmp 23) rfl (m := [x.1]) (B := w.heap.size) rfl rfl rfl (HO.out.below ((Below.refl _ _).alloc (Nat.le_refl _) _)) (Boxed.new wr x.1).reads hlen (by rw [World.size_alloc]; omega) ?_
                   intro v' w' ho' hg' hat'
                   have HD := Lib.hid (show Below w.heap.size w w' ∧ Owns fP 2 35 w' w.heap.size v' (cellsL (G.take (j + 1))) from
                     ⟨below_grown (HB.out.alloc hsz _) (by rw [World.size_alloc]; omega) hg' (fun i hi => (HO.out.lt i hi).1), by rw [List.take_add_one, HX.out]; unfold cellsL; rw [List.map_append]; exact ho'⟩)
                   clear ho' hg' hat')
      go_roundw
      case rel => exact ⟨j + 1, by omega, by go_num, HD⟩
      case measure => simp [intOf]; omega
    · have hd1 : ¬ (j : Int) < (G.length : Int) := by omega
      obtain rfl : j = G.length := by omega
      rw [List.take_length] at ho
      have HF : Hid (CellsPost (cellsL G) w (.returned (.slice oA (cellsL G).length oc)) wr) := Lib.hid ⟨_, rfl, ho, hbw⟩
      clear hbw ho hat
      go_wp2_with fail
      go_ret
      exact HF.out
end Go.Proofs.YtakamedgdiffbaaGreatDoor.GraphC
namespace Go.Proofs.YtakamedgdiffbaaGreatDoor.GraphC
set_option linter.unusedVariables false
open Go.RowKit Go.Proofs.YtakamedgdiffbaaGreatDoor.NumC Go.Proofs.YtakamedgdiffbaaGreatDoor.RowsC
open Go.Proofs.YtakamedgdiffbaaGreatDoor.RefsC (Rc RAt hitsL)
theorem direct_step {G : Gl} {j : Nat} {x : Pt × List Rc} (hx : G[j]? = some x) (l : List Pt) : directL hitP (G.take (j + 1)) l = if anyB hitP x.2 l = true then directL hitP (G.take j) l ++ [x.1] else directL hitP (G.take j) l := by
  unfold directL
  rw [List.take_add_one, hx, List.filter_append, List.map_append]
  split
  · rename_i h; rw [show (some x).toList = [x] from rfl, List.filter_cons_of_pos (by simpa using h)]; rfl
  · rename_i h; rw [show (some x).toList = [x] from rfl, List.filter_cons_of_neg (by simpa using h)]; simp
theorem direct_len (G : Gl) (l : List Pt) : (directL hitP G l).length ≤ G.length := by
  unfold directL; rw [List.length_map]; exact List.length_filter_le _ _
set_option maxHeartbeats 1000000 in
set_option maxRecDepth 100000 in
theorem rDirect {FP : Nat → Prop} (b : Nat) (G : Gl) (l : List Pt) (C : Option Addr) (d : Nat) (w : World) (hb : Bnd G) (hl : l.length ≤ 1000000) (hG : GSt w FP b G) (hL : Reads fP 2 w w.heap.size l C) :
    Calls Tryz.prog 16 #[.pointer (some ⟨b, 0, none⟩), .slice C l.length d] w (CellsPost (directL hitP G l) w) := by
  have hlt := hG.lt
  have hg1 := hb.1
  have HG := Lib.hid hG
  have HL := Lib.hid hL
  clear hG hL
  go_enter Tryz.func16, Tryz.ntmps16
  go_wp2_with fail
  go_loopw [5, 6] (fun ov iv wr => ∃ j : Nat, j ≤ G.length ∧ iv = .int .i64 j ∧ Hid (Below w.heap.size w wr ∧ Owns fP 2 35 wr w.heap.size ov (directL hitP (G.take j) l))) (fun _ iv _ => G.length - (intOf iv).toNat)
  case atStart => exact ⟨0, Nat.zero_le _, rfl, Lib.hid ⟨Below.refl _ _, Owns.nil _ _⟩⟩
  case round =>
    obtain ⟨j, hk, rfl, HR2⟩ := hrel
    obtain ⟨hbw, ho⟩ := HR2.out
    obtain ⟨A, c, c0, hat⟩ := (HG.out.below hbw).form
    obtain ⟨oA, oc, rfl, -⟩ := ho.form
    have hsz := hbw.size
    by_cases hj : j < G.length
    · have hd1 : (j : Int) < (G.length : Int) := by omega
      obtain ⟨x, hx⟩ := RowsC.at_some G j hj
      obtain ⟨g, o, E, k, rfl, c1, c2, c3, hr⟩ := hat j x hx
      have hxl : x.2.length ≤ 1000000 := Nat.le_trans (hb.at hx) (by decide)
      have HB := Lib.hid hbw
      have HO := Lib.hid ho
      have HX := Lib.hid hx
      have hcall := rhits x.2 l E C k d wr hxl hl hr ((HL.out.below hbw).mono hsz)
      have hst := direct_step hx l
      clear hbw ho hx hr hat
      go_wp2_with fail
      refine hcall.mono ?_; rintro e5 w5 ⟨rfl, hb5⟩
      have HB5 := Lib.hid (HB.out.trans (hb5.mono hsz))
      have HO5 := Lib.hid (HO.out.below hb5)
      have hsz5 := HB5.out.size
      obtain ⟨A5, c5, f0, hat5⟩ := (HG.out.below HB5.out).form
      obtain ⟨g5, o5, E5, k5, rfl, f1, f2, f3, -⟩ := hat5 j x HX.out
      clear hb5 hcall c0 c1 c2 c3 hat5
      cases hh : anyB hitP x.2 l
      · rw [hh, if_neg (by decide)] at hst
        have HS := Lib.hid hst
        clear hh hst
        go_wp2_with fail
        go_roundw
        case rel => exact ⟨j + 1, by omega, by go_num, Lib.hid ⟨HB5.out, by rw [HS.out]; exact HO5.out⟩⟩
        case measure => simp [intOf]; omega
      · rw [hh, if_pos rfl] at hst
        have HS := Lib.hid hst
        have hlen : (directL hitP (G.take j) l).length + 1 ≤ 100000000 := by
          have := direct_len (G.take j) l
          rw [List.length_take] at this
          omega
        clear hh hst
        go_wp2_with (at_builtin
                     refine wpList_append_owns kindP _ rfl (.tmp 26) (.tmp 35) rfl (m := [x.1]) (B := w.heap.size) rfl rfl rfl (HO5.out.below ((Below.refl _ _).alloc (Nat.le_refl _) _)) (Boxed.new w5 x.1).reads hlen (by rw [World.size_alloc]; omega) ?_
                     intro v' w' ho' hg' hat'
                     have HD := Lib.hid (show Below w.heap.size w w' ∧ Owns fP 2 35 w' w.heap.size v' (directL hitP (G.take (j + 1)) l) from
                       ⟨below_grown (HB5.out.alloc hsz5 _) (by rw [World.size_alloc]; omega) hg' (fun i hi => (HO5.out.lt i hi).1), by rw [HS.out]; exact ho'⟩)
                     clear ho' hg' hat')
        go_roundw
        case rel => exact ⟨j + 1, by omega, by go_num, HD⟩
        case measure => simp [intOf]; omega
    · have hd1 : ¬ (j : Int) < (G.length : Int) := by omega
      obtain rfl : j = G.length := by omega
      rw [List.take_length] at ho
      have HF : Hid (CellsPost (directL hitP G l) w (.returned (.slice oA (directL hitP G l).length oc)) wr) := Lib.hid ⟨_, rfl, ho, hbw⟩
      clear hbw ho hat
      go_wp2_with fail
      go_ret
      exact HF.out
def EdgesPost (l : List Rc) (w : World) (e : Ending) (w' : World) : Prop := ∃ A c, e = .returned (.slice A l.length c) ∧ RAt w' w'.heap.size l A ∧ Below w.heap.size w w'
theorem edges_at {G : Gl} {j : Nat} {x : Pt × List Rc} {a : Pt} (hx : G[j]? = some x) (hn : ∀ i y, i < j → G[i]? = some y → y.1 ≠ a) (e : x.1 = a) : edgesG [] G a = x.2 := by
  unfold edgesG
  have : G.find? (fun x => decide (x.1 = a)) = some x := by
    rw [List.find?_eq_some_iff_getElem]
    obtain ⟨hj, hv⟩ := List.getElem?_eq_some_iff.1 hx
    refine ⟨by simpa using e, j, hj, hv, fun i hi => ?_⟩
    have := hn i G[i] hi (List.getElem?_eq_getElem (by omega))
    simpa using this
  rw [this]
theorem edges_no {G : Gl} {a : Pt} (hn : ∀ i y, i < G.length → G[i]? = some y → y.1 ≠ a) : edgesG [] G a = [] := by
  apply edges_none
  intro x hx
  obtain ⟨i, hi, hv⟩ := List.mem_iff_getElem.1 hx
  exact hn i x hi (by rw [List.getElem?_eq_getElem hi, hv])
set_option maxHeartbeats 1000000 in
set_option maxRecDepth 100000 in
theorem rEdges {FP : Nat → Prop} (b : Nat) (G : Gl) (a : Pt) (w : World) (hb : Bnd G) (hG : GSt w FP b G) :
    Calls Tryz.prog 11 #[.pointer (some ⟨b, 0, none⟩), .agg #[.int .i64 a.r, .int .i64 a.c]] w (EdgesPost (edgesG [] G a) w) := by
  have bW : Below w.heap.size w (w.alloc (.cells #[.int .i64 a.r, .int .i64 a.c] 35)) := (Below.refl _ w).alloc (Nat.le_refl _) _
  have hs : w.heap.size < (w.alloc (.cells #[.int .i64 a.r, .int .i64 a.c] 35)).heap.size := by simp
  have hX : Boxed fP 35 (w.alloc (.cells #[.int .i64 a.r, .int .i64 a.c] 35)) w.heap.size a := Boxed.new w a
  have HG := Lib.hid (hG.below bW)
  have hg1 := hb.1
  clear hG
  go_enter Tryz.func11, Tryz.ntmps11
  go_wp2_with fail
  generalize (w.alloc (.cells #[.int .i64 a.r, .int .i64 a.c] 35)) = W at *
  have HBW := Lib.hid bW
  have HX := Lib.hid hX
  clear bW hX
  go_loopw [5] (fun iv wr => ∃ j : Nat, j ≤ G.length ∧ iv = .int .i64 j ∧ Hid (Below W.heap.size W wr ∧ (∀ i y, i < j → G[i]? = some y → y.1 ≠ a))) (fun iv _ => G.length - (intOf iv).toNat)
  case atStart => exact ⟨0, Nat.zero_le _, rfl, Lib.hid ⟨Below.refl _ _, fun i y h => absurd h (by omega)⟩⟩
  case round =>
    obtain ⟨j, hk, rfl, HR2⟩ := hrel
    obtain ⟨hbw, hn⟩ := HR2.out
    obtain ⟨A, c, c0, hat⟩ := (HG.out.below hbw).form
    have hX2 := HX.out.below hbw hs
    have e0 := hX2.cells 0 _ rfl
    have e1 := hX2.cells 1 _ rfl
    by_cases hj : j < G.length
    · have hd1 : (j : Int) < (G.length : Int) := by omega
      obtain ⟨x, hx⟩ := RowsC.at_some G j hj
      obtain ⟨g, o, E, k, rfl, c1, c2, c3, hr⟩ := hat j x hx
      have HB := Lib.hid hbw
      have HN := Lib.hid hn
      have HY := Lib.hid hx
      have HE := Lib.hid hr
      have eN := eqP x.1 a
      clear hbw hn hx hX2 hr hat
      cases hxa : decide (x.1 = a)
      · have HXA := Lib.hid (of_decide_eq_false hxa)
        rw [hxa] at eN
        clear hxa
        go_wp2_with fail
        go_quiet (fail)
        go_wp2_with fail
        go_roundw
        case rel => exact ⟨j + 1, by omega, by go_num, Lib.hid ⟨below_drewN' HB.out _, fun i y hi hy => by
          by_cases e : i = j
          · subst e; rw [HY.out] at hy; cases hy; exact HXA.out
          · exact HN.out i y (by omega) hy⟩⟩
        case measure => simp [intOf]; omega
      · have HXA := Lib.hid (of_decide_eq_true hxa)
        rw [hxa] at eN
        have HF : Hid (∀ n, EdgesPost (edgesG [] G a) w (.returned (.slice E x.2.length k)) (wr.drewN n)) := Lib.hid fun n => by
          rw [edges_at HY.out HN.out HXA.out]
          exact ⟨E, k, rfl, HE.out.below ⟨rfl, rfl, rfl, Nat.le_refl _, fun _ _ => rfl⟩, HBW.out.trans ((below_drewN' HB.out n).mono HBW.out.size)⟩
        clear hxa
        go_wp2_with fail
        go_quiet (fail)
        go_wp2_with fail
        go_ret
        exact HF.out _
    · have hd1 : ¬ (j : Int) < (G.length : Int) := by omega
      obtain rfl : j = G.length := by omega
      have HF : Hid (EdgesPost (edgesG [] G a) w (.returned (.slice none 0 0)) wr) := Lib.hid (by
        rw [edges_no hn]
        exact ⟨none, 0, rfl, Or.inl rfl, HBW.out.trans (hbw.mono HBW.out.size)⟩)
      clear hbw hn hat hX2
      go_wp2_with fail
      go_ret
      exact HF.out
end Go.Proofs.YtakamedgdiffbaaGreatDoor.GraphC
namespace Go.Proofs.YtakamedgdiffbaaGreatDoor.GraphC
set_option linter.unusedVariables false
open Go.RowKit Go.Proofs.YtakamedgdiffbaaGreatDoor.NumC Go.Proofs.YtakamedgdiffbaaGreatDoor.RowsC
open Go.Proofs.YtakamedgdiffbaaGreatDoor.RefsC (Rc RAt hitsL)
section
variable {A E : Type} {hit : E → A → Bool}
theorem roundL_nil (s : List Bool) (m : List A) : roundL hit ([] : List (A × E)) s m = (s, []) := by cases s <;> rfl
theorem round_step (G : List (A × E)) (s : List Bool) (m : List A) (hl : s.length = G.length) (j : Nat) (x : A × E) (b : Bool) (hx : G[j]? = some x) (hb : s[j]? = some b) :
    (roundL hit (G.take j) s m).1[j]? = some b ∧
    roundL hit (G.take (j + 1)) s m = if (!b && anyB hit x.2 m) = true then ((roundL hit (G.take j) s m).1.set j true, (roundL hit (G.take j) s m).2 ++ [x.1]) else roundL hit (G.take j) s m := by
  induction G generalizing s j with
  | nil => simp at hx
  | cons y G ih =>
    cases s with
    | nil => simp at hl
    | cons c s =>
      cases j with
      | zero =>
        simp only [List.getElem?_cons_zero, Option.some.injEq] at hx hb
        subst hx hb
        rw [List.take_zero, roundL_nil]
        refine ⟨rfl, ?_⟩
        rw [List.take_succ_cons, List.take_zero, round_cons, roundL_nil]
        split <;> rfl
      | succ j =>
        simp only [List.getElem?_cons_succ] at hx hb
        obtain ⟨h1, h2⟩ := ih s (by simpa using hl) j hx hb
        rw [List.take_succ_cons, List.take_succ_cons, round_cons, round_cons]
        by_cases h : (!c && anyB hit y.2 m) = true
        · rw [if_pos h, if_pos h]
          refine ⟨by simpa using h1, ?_⟩
          rw [h2]
          split <;> rfl
        · rw [if_neg h, if_neg h]
          refine ⟨by simpa using h1, ?_⟩
          rw [h2]
          split <;> rfl
theorem round_more (G : List (A × E)) (s : List Bool) (m : List A) : (roundL hit G s m).2.length ≤ G.length := by
  induction G generalizing s with
  | nil => rw [roundL_nil]; exact Nat.zero_le _
  | cons y G ih =>
    cases s with
    | nil => exact Nat.zero_le _
    | cons c s =>
      rw [round_cons]
      have := ih s
      split <;> simp only [List.length_cons] <;> omega
theorem pick_step (G : List (A × E)) (s : List Bool) (hl : s.length = G.length) (j : Nat) (x : A × E) (b : Bool) (hx : G[j]? = some x) (hb : s[j]? = some b) :
    pickL (G.take (j + 1)) s = if b = true then pickL (G.take j) s ++ [x.1] else pickL (G.take j) s := by
  induction G generalizing s j with
  | nil => simp at hx
  | cons y G ih =>
    cases s with
    | nil => simp at hl
    | cons c s =>
      cases j with
      | zero =>
        simp only [List.getElem?_cons_zero, Option.some.injEq] at hx hb
        subst hx hb
        simp only [List.take_succ_cons, List.take_zero]
        unfold pickL
        cases s <;> rfl
      | succ j =>
        simp only [List.getElem?_cons_succ] at hx hb
        have := ih s (by simpa using hl) j hx hb
        rw [List.take_succ_cons, List.take_succ_cons]
        show (if c = true then y.1 :: pickL (G.take (j + 1)) s else pickL (G.take (j + 1)) s) = if b = true then (if c = true then y.1 :: pickL (G.take j) s else pickL (G.take j) s) ++ [x.1] else (if c = true then y.1 :: pickL (G.take j) s else pickL (G.take j) s)
        rw [this]
        cases b <;> cases c <;> rfl
theorem pick_len (G : List (A × E)) (s : List Bool) : (pickL G s).length ≤ G.length := by
  induction G generalizing s with
  | nil => cases s <;> exact Nat.zero_le _
  | cons y G ih =>
    cases s with
    | nil => exact Nat.zero_le _
    | cons c s =>
      have := ih s
      unfold pickL
      split <;> simp only [List.length_cons] <;> omega
end
structure RIn (w wr : World) (G : Gl) (s : List Bool) (m : List Pt) (A : Option Addr) (gi : Nat) (j : Nat) (mv : Value) : Prop where
  below : Below w.heap.size w wr
  ins : Owns fB 1 4 wr w.heap.size (.slice (some ⟨gi, 0, none⟩) G.length G.length) (roundL hitP (G.take j) s m).1
  more : Owns fP 2 35 wr w.heap.size mv (roundL hitP (G.take j) s m).2
  front : Reads fP 2 wr wr.heap.size m A
  a0 : mv.ownBlock ≠ some gi
  a1 : m ≠ [] → ∀ a, A = some a → a.block ≠ gi ∧ mv.ownBlock ≠ some a.block
structure ROut (w wr : World) (G : Gl) (S : List Bool) (gi k : Nat) (fv : Value) : Prop where
  below : Below w.heap.size w wr
  is : ∃ (s : List Bool) (m : List Pt) (A : Option Addr) (c : Nat), fv = .slice A m.length c ∧ m.length ≤ 1000000 ∧ Owns fB 1 4 wr w.heap.size (.slice (some ⟨gi, 0, none⟩) G.length G.length) s ∧ s.length = G.length ∧ Reads fP 2 wr wr.heap.size m A ∧ (m ≠ [] → ∀ a, A = some a → a.block ≠ gi) ∧ roundsL hitP G (G.length + 1 - k) s m = S
theorem RIn.under {w wr w5 : World} {G : Gl} {s : List Bool} {m : List Pt} {A : Option Addr} {gi j : Nat} {mv : Value} (h : RIn w wr G s m A gi j mv) (hb : Below wr.heap.size wr w5) : RIn w w5 G s m A gi j mv :=
  { h with below := h.below.trans (hb.mono h.below.size), ins := h.ins.below hb, more := h.more.below hb, front := (h.front.below hb).mono hb.size }
theorem RIn.same {w wr : World} {G : Gl} {s : List Bool} {m : List Pt} {A : Option Addr} {gi j : Nat} {mv : Value} (h : RIn w wr G s m A gi j mv) (e : roundL hitP (G.take (j + 1)) s m = roundL hitP (G.take j) s m) : RIn w wr G s m A gi (j + 1) mv :=
  { h with ins := by rw [e]; exact h.ins, more := by rw [e]; exact h.more }
theorem RIn.step {w w5 w' : World} {G : Gl} {s : List Bool} {m : List Pt} {A : Option Addr} {gi j : Nat} {mv v' : Value} {x : Pt} {o : Obj} (h : RIn w w5 G s m A gi j mv) (hs : s.length = G.length)
    (e : roundL hitP (G.take (j + 1)) s m = ((roundL hitP (G.take j) s m).1.set j true, (roundL hitP (G.take j) s m).2 ++ [x]))
    (ho : Owns fP 2 35 w' w.heap.size v' ((roundL hitP (G.take j) s m).2 ++ [x])) (hg : ((w5.setCell ⟨gi, j, none⟩ (.bool true)).alloc o).grownBy w' mv.ownBlock) (ha : v'.ownBlock = mv.ownBlock ∨ v'.ownBlock = some ((w5.setCell ⟨gi, j, none⟩ (.bool true)).alloc o).heap.size) : RIn w w' G s m A gi (j + 1) v' := by
  have hl : (roundL hitP (G.take j) s m).1.length = G.length := by rw [round_len, hs]
  obtain ⟨h1, h2⟩ := h.ins.stored (fun _ => rfl) hl.symm j true (.bool true) rfl
  have hgi : w.heap.size ≤ gi ∧ gi < w5.heap.size := h.ins.lt gi rfl
  have hsz := h.below.size
  have hS : ((w5.setCell ⟨gi, j, none⟩ (.bool true)).alloc o).heap.size = w5.heap.size + 1 := by rw [World.size_alloc]; simp
  have hmv := h.more.lt
  have hbl : Below w.heap.size w ((w5.setCell ⟨gi, j, none⟩ (.bool true)).alloc o) := (below_grown h.below hsz h2 (fun k e => by cases e; exact hgi.1)).alloc (by simp; omega) _
  have hba : Below (w5.setCell ⟨gi, j, none⟩ (.bool true)).heap.size (w5.setCell ⟨gi, j, none⟩ (.bool true)) ((w5.setCell ⟨gi, j, none⟩ (.bool true)).alloc o) := (Below.refl _ _).alloc (Nat.le_refl _) _
  refine { below := below_grown hbl hbl.size hg (fun k e => (hmv k e).1), ins := ?_, more := by rw [e]; exact ho, front := ?_, a0 := ?_, a1 := ?_ }
  · rw [e]
    exact (h1.below hba).grown hg (Or.inr fun e => h.a0 e.symm)
  · have f1 := h.front.grown (Nat.le_refl _) h2 (fun hne a ha e => (h.a1 hne a ha).1 (Option.some.inj e).symm)
    have f2 := (f1.mono h2.size).below hba
    exact ((f2.mono hba.size).grown (Nat.le_refl _) hg (fun hne a ha => (h.a1 hne a ha).2)).mono hg.size
  · rcases ha with ha | ha
    · rw [ha]; exact h.a0
    · rw [ha, hS]; intro e; have := Option.some.inj e; omega
  · intro hne a haA
    refine ⟨(h.a1 hne a haA).1, ?_⟩
    rcases ha with ha | ha
    · rw [ha]; exact (h.a1 hne a haA).2
    · rw [ha, hS]
      intro e
      have e' := Option.some.inj e
      rcases h.front with h0 | ⟨g, o, e2, hg2, -⟩
      · exact hne h0
      · rw [haA] at e2; cases e2; simp at e'; omega
theorem ROut.next {w wr : World} {G : Gl} {S s : List Bool} {m : List Pt} {A : Option Addr} {gi k : Nat} {mv : Value} (hk : k ≤ G.length) (hs : s.length = G.length) (hg : G.length ≤ 1000) (h : RIn w wr G s m A gi G.length mv) (hS : roundsL hitP G (G.length + 1 - k) s m = S) : ROut w wr G S gi (k + 1) mv := by
  have h1 := h.ins
  have h2 := h.more
  rw [List.take_length] at h1 h2
  obtain ⟨A', c', rfl, -⟩ := h2.form
  have hml := round_more (hit := hitP) G s m
  refine ⟨h.below, _, _, A', c', rfl, by omega, h1, by rw [round_len, hs], (h2.reads kindP.row).2, fun _ a ha => ?_, ?_⟩
  · subst ha
    exact fun e => h.a0 (by show some a.block = _; rw [e])
  · rw [← hS, show G.length + 1 - k = (G.length + 1 - (k + 1)) + 1 by omega]; rfl
set_option maxHeartbeats 4000000 in
set_option maxRecDepth 100000 in
theorem rReach {FP : Nat → Prop} (b : Nat) (G : Gl) (l : List Pt) (C : Option Addr) (d : Nat) (w : World) (hb : Bnd G) (hl : l.length ≤ 1000000) (hG : GSt w FP b G) (hL : Reads fP 2 w w.heap.size l C) :
    Calls Tryz.prog 18 #[.pointer (some ⟨b, 0, none⟩), .slice C l.length d] w (CellsPost (reachL hitP G l) w) := by
  have hlt := hG.lt
  have hg1 := hb.1
  obtain ⟨A0, c0', c0, -⟩ := hG.form
  have HG := Lib.hid hG
  have HL := Lib.hid hL
  generalize hS : roundsL hitP G (G.length + 1) (List.replicate G.length false) l = S
  have HS := Lib.hid hS
  have HP : Hid (pickL G S = reachL hitP G l) := Lib.hid (by rw [← hS]; rfl)
  have hSl : S.length = G.length := by rw [← hS, rounds_len, List.length_replicate]
  clear hS hG hL
  go_enter Tryz.func18, Tryz.ntmps18
  obtain ⟨i0, hi, hz0, hz1, hz2⟩ := info_parts bool_info
  go_wp2_with (at_make
               refine wpList_make_full _ rfl (.tmp 16) (.tmp 16) 85 rfl w.heap.size 4 i0 _ 1 Tryz.underlying85 hi hz0 hz1 .i64 .i64 (G.length : Int) (G.length : Int) G.length rfl rfl rfl rfl (by rw [hz2]; omega) (by unfold maxLen; omega) (Nat.le_refl _) ?_
               intro w6 ho6 hg6
               have HC : Hid (ROut w w6 G S w.heap.size 0 (.slice C l.length d)) := Lib.hid ⟨below_grown (Below.refl _ _) (Nat.le_refl _) hg6 (fun k h => by cases h), _, l, C, d, rfl, hl, Owns.made (x := false) rfl ho6, by rw [List.length_replicate], (HL.out.grown (Nat.le_refl _) hg6 (fun _ a _ h => by cases h)).mono hg6.size, fun hne a ha => by
                 subst ha
                 rcases HL.out with h | ⟨g, o, e, hg, -⟩
                 · exact absurd h hne
                 · cases e; exact Nat.ne_of_lt hg, HS.out⟩
               clear ho6 hg6)
  go_loopw [6, 7] (fun fv kv wr => ∃ k : Nat, k ≤ G.length + 1 ∧ kv = .int .i64 k ∧ Hid (ROut w wr G S w.heap.size k fv)) (fun _ kv _ => G.length + 1 - (intOf kv).toNat)
  case atStart => exact ⟨0, Nat.zero_le _, rfl, HC⟩
  case round =>
    clear HC
    obtain ⟨k, hk, rfl, HR2⟩ := hrel
    obtain ⟨hbw, s, m, A, c, rfl, hml, hins, hsl, hfr, hap, hwh⟩ := HR2.out
    obtain ⟨A1, c1, f0, hat⟩ := (HG.out.below hbw).form
    have hsz := hbw.size
    by_cases hlk : k ≤ G.length
    · have hd1 : (k : Int) ≤ (G.length : Int) := by omega
      have HW := Lib.hid hwh
      have HIN : Hid (RIn w wr G s m A w.heap.size 0 (.slice none 0 0)) := Lib.hid ⟨hbw, by rw [List.take_zero, roundL_nil]; exact hins, by rw [List.take_zero, roundL_nil]; exact Owns.nil _ _, hfr, (fun h => by cases h), fun hne a ha => ⟨hap hne a ha, fun h => by cases h⟩⟩
      clear hbw hins hfr hap hat HR2 hwh
      go_wp2_with fail
      go_loopw [8, 9] (fun mv jv W9 => ∃ j : Nat, j ≤ G.length ∧ jv = .int .i64 j ∧ Hid (RIn w W9 G s m A w.heap.size j mv)) (fun _ jv _ => G.length - (intOf jv).toNat)
      case atStart => exact ⟨0, Nat.zero_le _, rfl, HIN⟩
      case round =>
        clear HIN
        obtain ⟨j, hj0, rfl, HR3⟩ := hrel
        have R := HR3.out
        obtain ⟨A2, c2, p0, hat2⟩ := (HG.out.below R.below).form
        have hsz2 := R.below.size
        obtain ⟨mA, mc, rfl, -⟩ := R.more.form
        by_cases hj : j < G.length
        · have hd2 : (j : Int) < (G.length : Int) := by omega
          obtain ⟨x, hx⟩ := RowsC.at_some G j hj
          obtain ⟨bj, hbj⟩ := RowsC.at_some s j (by omega)
          obtain ⟨g, o, E, q, rfl, c1, c2, c3, hr⟩ := hat2 j x hx
          obtain ⟨hcur, hstep⟩ := round_step (hit := hitP) G s m hsl j x bj hx hbj
          have i0 := R.ins.cell1 kindB.row j bj (.bool bj) hcur rfl
          have hxl : x.2.length ≤ 1000000 := Nat.le_trans (hb.at hx) (by decide)
          have HR := Lib.hid R
          have HX := Lib.hid hx
          clear HR3 R hx hat2
          cases bj
          · have hcall := rhits x.2 m E A q c wr hxl hml hr HR.out.front
            clear hr
            go_wp2_with fail
            refine hcall.mono ?_; rintro e5 w5 ⟨rfl, hb5⟩
            have R5 := HR.out.under hb5
            obtain ⟨A5, c5, f0, hat5⟩ := (HG.out.below R5.below).form
            obtain ⟨g5, o5, E5, q5, rfl, f1, f2, f3, -⟩ := hat5 j x HX.out
            have hsz5 := R5.below.size
            have i1 := R5.ins.cell1 kindB.row j false (.bool false) hcur rfl
            have i2 := R5.ins.frozen1 (by rw [round_len, hsl]) j
            have hgi : w.heap.size < w5.heap.size := (R5.ins.lt _ rfl).2
            have hne5 := R5.ins.no_int (by rw [round_len, hsl]) f1
            have hneb : b ≠ w.heap.size := by omega
            have HR5 := Lib.hid R5
            clear hb5 hcall c1 c2 c3 hat5 R5 i0 p0 hcur hbj
            cases hh : anyB hitP x.2 m
            · have HD := Lib.hid (HR5.out.same (by rw [hstep, hh]; rfl))
              clear hh hstep
              go_wp2_with fail
              go_roundw
              case rel => exact ⟨j + 1, by omega, by go_num, HD⟩
              case measure => simp [intOf]; omega
            · have HS5 : Hid (roundL hitP (G.take (j + 1)) s m = ((roundL hitP (G.take j) s m).1.set j true, (roundL hitP (G.take j) s m).2 ++ [x.1])) := Lib.hid (by rw [hstep, hh]; rfl)
              have hlen : (roundL hitP (G.take j) s m).2.length + 1 ≤ 100000000 := by
                have := round_more (hit := hitP) (G.take j) s m
                rw [List.length_take] at this
                omega
              clear hh hstep
              go_wp2_with (at_builtin
                           refine wpList_append_owns kindP _ rfl (.tmp 57) (.tmp 66) rfl (m := [x.1]) (l := (roundL hitP (G.take j) s m).2) (B := w.heap.size) (M := w5.heap.size + 1) rfl rfl rfl ?ho ?hr hlen ?hB ?_
                           case ho => exact ((HR5.out.more.grown (HR5.out.ins.stored (fun _ => rfl) (by rw [round_len, hsl]) j true (.bool true) rfl).2 (Or.inr HR5.out.a0)).below ((Below.refl _ _).alloc (Nat.le_refl _) _))
                           case hr => exact Reads.eq ((Boxed.new (f := fP) (w5.setCell ⟨w.heap.size, j, none⟩ (.bool true)) x.1).reads (n := 2)) (by rw [World.size_alloc]; simp) (by simp)
                           case hB => rw [World.size_alloc]; simp; omega
                           intro v' w' ho' hg' hat'
                           have HD := Lib.hid (HR5.out.step hsl HS5.out ho' hg' hat')
                           clear ho' hg' hat')
              go_roundw
              case rel => exact ⟨j + 1, by omega, by go_num, HD⟩
              case measure => simp [intOf]; omega
          · have HD : Hid (RIn w wr G s m A w.heap.size (j + 1) (.slice mA (roundL hitP (G.take j) s m).2.length mc)) := Lib.hid (by
              have e : roundL hitP (G.take (j + 1)) s m = roundL hitP (G.take j) s m := by rw [hstep, if_neg (by simp)]
              exact { HR.out with ins := by rw [e]; exact HR.out.ins, more := by rw [e]; exact HR.out.more })
            clear hr hstep hcur hbj
            go_wp2_with fail
            go_roundw
            case rel => exact ⟨j + 1, by omega, by go_num, HD⟩
            case measure => simp [intOf]; omega
        · have hd2 : ¬ (j : Int) < (G.length : Int) := by omega
          obtain rfl : j = G.length := by omega
          have HD : Hid (ROut w wr G S w.heap.size (k + 1) (.slice mA (roundL hitP (G.take G.length) s m).2.length mc)) := Lib.hid (ROut.next hlk hsl hg1 R HW.out)
          clear R HR3 hat2
          go_wp2_with fail
          go_roundw
          case rel => exact ⟨k + 1, by omega, by go_num, HD⟩
          case measure => simp [intOf]; omega
    · have hd1 : ¬ (k : Int) ≤ (G.length : Int) := by omega
      have hke : k = G.length + 1 := by omega
      have hsS : s = S := by
        rw [← hwh, hke, Nat.sub_self]; rfl
      subst hsS
      have HIN : Hid (Below w.heap.size w wr ∧ Owns fB 1 4 wr w.heap.size (.slice (some ⟨w.heap.size, 0, none⟩) G.length G.length) s ∧ Owns fP 2 35 wr w.heap.size (.slice none 0 0) (pickL (G.take 0) s) ∧ (Value.slice none 0 0).ownBlock ≠ some w.heap.size) := Lib.hid ⟨hbw, hins, by rw [List.take_zero]; cases s <;> exact Owns.nil _ _, fun h => by cases h⟩
      clear hbw hins hfr hap hat HR2 hwh hke
      go_wp2_with fail
      go_loopw [10, 11] (fun ov jv W9 => ∃ j : Nat, j ≤ G.length ∧ jv = .int .i64 j ∧ Hid (Below w.heap.size w W9 ∧ Owns fB 1 4 W9 w.heap.size (.slice (some ⟨w.heap.size, 0, none⟩) G.length G.length) s ∧ Owns fP 2 35 W9 w.heap.size ov (pickL (G.take j) s) ∧ ov.ownBlock ≠ some w.heap.size)) (fun _ jv _ => G.length - (intOf jv).toNat)
      case atStart => exact ⟨0, Nat.zero_le _, rfl, HIN⟩
      case round =>
        clear HIN
        obtain ⟨j, hj0, rfl, HR3⟩ := hrel
        obtain ⟨hbw, hins, ho, hne⟩ := HR3.out
        obtain ⟨A2, c2, p0, hat2⟩ := (HG.out.below hbw).form
        have hsz2 := hbw.size
        obtain ⟨oA, oc, rfl, -⟩ := ho.form
        by_cases hj : j < G.length
        · have hd2 : (j : Int) < (G.length : Int) := by omega
          obtain ⟨x, hx⟩ := RowsC.at_some G j hj
          obtain ⟨bj, hbj⟩ := RowsC.at_some s j (by omega)
          obtain ⟨g, o, E, q, rfl, c1, c2, c3, hr⟩ := hat2 j x hx
          have hst := pick_step G s hsl j x bj hx hbj
          have i1 := hins.cell1 kindB.row j bj (.bool bj) hbj rfl
          have HR := Lib.hid (show Below w.heap.size w wr ∧ Owns fB 1 4 wr w.heap.size (.slice (some ⟨w.heap.size, 0, none⟩) G.length G.length) s ∧ Owns fP 2 35 wr w.heap.size (.slice oA (pickL (G.take j) s).length oc) (pickL (G.take j) s) ∧ (Value.slice oA (pickL (G.take j) s).length oc).ownBlock ≠ some w.heap.size from ⟨hbw, hins, ho, hne⟩)
          have hgw : w.heap.size < wr.heap.size := (hins.lt _ rfl).2
          clear HR3 hbw hins ho hne hx hbj hr hat2
          cases bj
          · rw [if_neg (by decide)] at hst
            have HS2 := Lib.hid hst
            clear hst
            go_wp2_with fail
            go_roundw
            case rel => exact ⟨j + 1, by omega, by go_num, by rw [HS2.out]; exact HR⟩
            case measure => simp [intOf]; omega
          · rw [if_pos rfl] at hst
            have HS2 := Lib.hid hst
            have hlen : (pickL (G.take j) s).length + 1 ≤ 100000000 := by
              have := pick_len (G.take j) s
              rw [List.length_take] at this
              omega
            clear hst
            go_wp2_with (at_builtin
                         refine wpList_append_owns kindP _ rfl (.tmp 82) (.tmp 91) rfl (m := [x.1]) (l := pickL (G.take j) s) (B := w.heap.size) rfl rfl rfl (HR.out.2.2.1.below ((Below.refl _ _).alloc (Nat.le_refl _) _)) (Boxed.new wr x.1).reads hlen (by rw [World.size_alloc]; omega) ?_
                         intro v' w' ho' hg' hat'
                         have HD : Hid (Below w.heap.size w w' ∧ Owns fB 1 4 w' w.heap.size (.slice (some ⟨w.heap.size, 0, none⟩) G.length G.length) s ∧ Owns fP 2 35 w' w.heap.size v' (pickL (G.take (j + 1)) s) ∧ v'.ownBlock ≠ some w.heap.size) := Lib.hid ⟨below_grown (HR.out.1.alloc hsz2 _) (by rw [World.size_alloc]; omega) hg' (fun i hi => (HR.out.2.2.1.lt i hi).1), (HR.out.2.1.below ((Below.refl _ _).alloc (Nat.le_refl _) _)).grown hg' (Or.inr fun e => HR.out.2.2.2 e.symm), by rw [HS2.out]; exact ho', by
                           rcases hat' with h | h
                           · rw [h]; exact HR.out.2.2.2
                           · rw [h, World.size_alloc]; intro e; have := Option.some.inj e; omega⟩
                         clear ho' hg' hat')
            go_roundw
            case rel => exact ⟨j + 1, by omega, by go_num, HD⟩
            case measure => simp [intOf]; omega
        · have hd2 : ¬ (j : Int) < (G.length : Int) := by omega
          obtain rfl : j = G.length := by omega
          have HF : Hid (CellsPost (reachL hitP G l) w (.returned (.slice oA (pickL (G.take G.length) s).length oc)) wr) := Lib.hid ⟨_, rfl, by rw [← HP.out]; rw [List.take_length] at ho ⊢; exact ho, hbw⟩
          rw [List.take_length] at HF
          clear hbw hins ho hne HR3 hat2
          go_wp2_with fail
          go_ret
          exact HF.out
end Go.Proofs.YtakamedgdiffbaaGreatDoor.GraphC
