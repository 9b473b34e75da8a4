/-
  Rows of cells of the grid in memory; contracts: whether rectangles have one of them, whether a row has a cell, whether two rows are alike.
-/
import Derived.Test.YtakamedgdiffbaaDoorPAgainRowsA
import Derived.Test.YtakamedgdiffbaaDoorPAgainGraphM
import Derived.Test.YtakamedgdiffbaaDoorPAgainTreeZ2
import Derived.Test.YtakamedgdiffbaaDoorPAgainRefsM
import Derived.Test.YtakamedgdiffbaaDoorPAgainAddrA
namespace Go.Proofs.YtakamedgdiffbaaDoor.GraphC
set_option linter.unusedVariables false
open Go.RowKit Go.Proofs.YtakamedgdiffbaaDoor.NumC Go.Proofs.YtakamedgdiffbaaDoor.RowsC
open Go.Proofs.YtakamedgdiffbaaDoor.RefsC (Rc RAt hitsL)
open Go.Proofs.YtakamedgdiffbaaDoor.TreeC (eq_addr)
structure Pt where
  r : Int
  c : Int
  deriving DecidableEq
def fP (a : Pt) : List Value := [.int .i64 a.r, .int .i64 a.c]
def hitP (e : List Rc) (a : Pt) : Bool := hitsL e a.r a.c
theorem kindP : Kind fP 2 34 24 where
  row := ⟨fun _ => rfl, fun x u hu => by
    simp only [fP, List.mem_cons, List.not_mem_nil, or_false] at hu
    rcases hu with rfl | rfl <;> rfl, by decide⟩
  under := Tryd.underlying34
  info := ⟨.agg #[.int .i64 0, .int .i64 0], 16, by kernel_rfl, rfl, by decide⟩
theorem Reads.pt {w : World} {B : Nat} {l : List Pt} {A : Option Addr} (h : Reads fP 2 w B l A) (i : Nat) (x : Pt) (hx : l[i]? = some x) :
    ∃ g o, A = some ⟨g, o, none⟩ ∧ g < B ∧ w.cell? ⟨g, o + i * 2, none⟩ = some (.int .i64 x.r) ∧ w.cell? ⟨g, o + i * 2 + 1, none⟩ = some (.int .i64 x.c) := by
  obtain ⟨g, o, e, hg, h⟩ := h.nth i x hx
  exact ⟨g, o, e, hg, h 0 _ rfl, h 1 _ rfl⟩
theorem pt_eq {x y : Pt} : (x.r = y.r ∧ x.c = y.c) ↔ x = y := by
  constructor
  · obtain ⟨a, b⟩ := x; obtain ⟨a', b'⟩ := y
    rintro ⟨h1, h2⟩
    simp only at h1 h2
    rw [h1, h2]
  · rintro rfl; exact ⟨rfl, rfl⟩
theorem eqP (x y : Pt) (W : World) : (binOp .eql 24 (.agg #[.int .i64 x.r, .int .i64 x.c]) (.agg #[.int .i64 y.r, .int .i64 y.c])).run Tryd.prog W = .ok (.bool (decide (x = y))) W := by
  have h := eq_addr x.r x.c y.r y.c W
  rw [show decide (x.r = y.r ∧ x.c = y.c) = decide (x = y) from decide_eq_decide.2 pt_eq] at h
  exact h
theorem neqP (x y : Pt) (W : World) : (binOp .neq 24 (.agg #[.int .i64 x.r, .int .i64 x.c]) (.agg #[.int .i64 y.r, .int .i64 y.c])).run Tryd.prog W = .ok (.bool (!decide (x = y))) W := by
  have h := eqP x y W
  rw [run_eql_struct] at h
  rw [run_neq_struct]
  cases hr : (Op.equalIn 10000 24 (.agg #[.int .i64 x.r, .int .i64 x.c]) (.agg #[.int .i64 y.r, .int .i64 y.c])).run Tryd.prog W with
  | ok v w' =>
    rw [hr] at h
    simp only [Result.andThen, Result.ok.injEq, Value.bool.injEq] at h ⊢
    obtain ⟨h1, h2⟩ := h
    rw [h1]; simp [h2]
  | halt e w' => rw [hr] at h; cases h
theorem take_ne {l m : List Pt} {k : Nat} {x y : Pt} (hx : l[k]? = some x) (hy : m[k]? = some y) (h : x ≠ y) : l ≠ m := by
  rintro rfl; rw [hx] at hy; exact h (Option.some.inj hy)
set_option maxHeartbeats 1000000 in
set_option maxRecDepth 100000 in
theorem kHasAddr (l : List Pt) (A : Option Addr) (c : Nat) (a : Pt) (w : World) (hl : l.length ≤ 1000000) (hR : Reads fP 2 w w.heap.size l A) :
    Calls Tryd.prog 16 #[.slice A l.length c, .agg #[.int .i64 a.r, .int .i64 a.c]] w fun e w' => e = .returned (.bool (decide (a ∈ l))) ∧ Below w.heap.size w w' := by
  have bW : Below w.heap.size w (w.alloc (.cells #[.int .i64 a.r, .int .i64 a.c] 24)) := (Below.refl _ w).alloc (Nat.le_refl _) _
  have hs : w.heap.size < (w.alloc (.cells #[.int .i64 a.r, .int .i64 a.c] 24)).heap.size := by simp
  have hX : Boxed fP 24 (w.alloc (.cells #[.int .i64 a.r, .int .i64 a.c] 24)) w.heap.size a := Boxed.new w a
  have HR := Lib.hid ((hR.below bW).mono bW.size)
  clear hR
  go_enter Tryd.func16, Tryd.ntmps16
  go_wp2_with fail
  generalize (w.alloc (.cells #[.int .i64 a.r, .int .i64 a.c] 24)) = W at *
  have HBW := Lib.hid bW
  have HX := Lib.hid hX
  clear bW hX
  go_loopw [5] (fun iv wr => ∃ j : Nat, j ≤ l.length ∧ iv = .int .i64 j ∧ Hid (Below W.heap.size W wr ∧ a ∉ l.take j)) (fun iv _ => l.length - (intOf iv).toNat)
  case atStart => exact ⟨0, Nat.zero_le _, rfl, Lib.hid ⟨Below.refl _ _, by simp⟩⟩
  case round =>
    obtain ⟨j, hk, rfl, HR2⟩ := hrel
    obtain ⟨hb, hn⟩ := HR2.out
    by_cases hlt : j < l.length
    · have hd1 : (j : Int) < (l.length : Int) := by omega
      obtain ⟨x, hx⟩ := RowsC.at_some l j hlt
      obtain ⟨g0, o, rfl, hg0, c0, c1⟩ := Reads.pt (HR.out.below hb) j x hx
      have hX2 := HX.out.below hb hs
      have e0 := hX2.cells 0 _ rfl
      have e1 := hX2.cells 1 _ rfl
      have HB := Lib.hid hb
      have HN := Lib.hid hn
      have HY := Lib.hid hx
      have eN := eqP x a
      clear hb hn hx hX2
      cases hxa : decide (x = a)
      · have HXA := Lib.hid (of_decide_eq_false hxa)
        rw [hxa] at eN
        clear hxa
        go_wp2_with fail
        go_quiet (fail)
        go_wp2_with fail
        go_roundw
        case rel => exact ⟨j + 1, by omega, by go_num, Lib.hid ⟨below_drewN' HB.out _, by rw [List.take_add_one, HY.out, List.mem_append]; rintro (h | h); exact HN.out h; exact HXA.out (Eq.symm (show a = x by simpa using h))⟩⟩
        case measure => simp [intOf]; omega
      · have HXA := Lib.hid (of_decide_eq_true hxa)
        rw [hxa] at eN
        clear hxa
        go_wp2_with fail
        go_quiet (fail)
        go_wp2_with fail
        go_ret
        exact ⟨ret1 (decide_eq_true (show a ∈ l by rw [← HXA.out]; exact List.mem_of_getElem? HY.out)).symm, HBW.out.trans ((below_drewN' HB.out _).mono HBW.out.size)⟩
    · have hd1 : ¬ (j : Int) < (l.length : Int) := by omega
      obtain rfl : j = l.length := by omega
      rw [List.take_length] at hn
      have HN := Lib.hid hn
      have HB := Lib.hid hb
      clear hn hb
      go_wp2_with fail
      go_ret
      exact ⟨ret1 (decide_eq_false HN.out).symm, HBW.out.trans (HB.out.mono HBW.out.size)⟩
set_option maxHeartbeats 1000000 in
set_option maxRecDepth 100000 in
theorem kAddrs (l m : List Pt) (A C : Option Addr) (c d : Nat) (w : World) (hl : l.length ≤ 1000000) (hm : m.length ≤ 1000000) (hR : Reads fP 2 w w.heap.size l A) (hS : Reads fP 2 w w.heap.size m C) :
    Calls Tryd.prog 12 #[.slice A l.length c, .slice C m.length d] w fun e w' => e = .returned (.bool (decide (l = m))) ∧ Below w.heap.size w w' := by
  have HR := Lib.hid hR
  have HS := Lib.hid hS
  clear hR hS
  by_cases hlen : l.length = m.length
  · have hd0 : ((l.length : Int) != (m.length : Int)) = false := by simp [hlen]
    have HLEN := Lib.hid hlen
    go_enter Tryd.func12, Tryd.ntmps12
    go_wp2_with fail
    clear hd0
    go_loopw [5] (fun iv wr => ∃ k : Nat, k ≤ l.length ∧ iv = .int .i64 k ∧ Hid (Below w.heap.size w wr ∧ l.take k = m.take k)) (fun iv _ => l.length - (intOf iv).toNat)
    case atStart => exact ⟨0, Nat.zero_le _, rfl, Lib.hid ⟨Below.refl _ _, rfl⟩⟩
    case round =>
      obtain ⟨k, hk, rfl, HR2⟩ := hrel
      obtain ⟨hb, hn⟩ := HR2.out
      by_cases hlt : k < l.length
      · have hd1 : (k : Int) < (l.length : Int) := by omega
        have hd3 : (k : Int) < (m.length : Int) := by omega
        obtain ⟨x, hx⟩ := RowsC.at_some l k hlt
        obtain ⟨y, hy⟩ := RowsC.at_some m k (by omega)
        obtain ⟨g0, o, rfl, hg0, c0, c1⟩ := Reads.pt (HR.out.below hb) k x hx
        obtain ⟨g1, o1, rfl, hg1, d0, d1⟩ := Reads.pt (HS.out.below hb) k y hy
        have HB := Lib.hid hb
        have HN := Lib.hid hn
        have HX := Lib.hid hx
        have HY := Lib.hid hy
        have eN := neqP x y
        clear hb hn hx hy hlen
        cases hxy : decide (x = y)
        · have HXY := Lib.hid (of_decide_eq_false hxy)
          rw [hxy] at eN
          clear hxy
          go_wp2_with fail
          go_quiet (fail)
          go_wp2_with fail
          go_ret
          exact ⟨ret1 (decide_eq_false (take_ne HX.out HY.out HXY.out)).symm, below_drewN' HB.out _⟩
        · have HXY := Lib.hid (of_decide_eq_true hxy)
          rw [hxy] at eN
          clear hxy
          go_wp2_with fail
          go_quiet (fail)
          go_wp2_with fail
          go_roundw
          case rel => exact ⟨k + 1, by omega, by go_num, Lib.hid ⟨below_drewN' HB.out _, by rw [List.take_add_one, List.take_add_one, HN.out, HX.out, HY.out, HXY.out]⟩⟩
          case measure => simp [intOf]; omega
      · have hd1 : ¬ (k : Int) < (l.length : Int) := by omega
        obtain rfl : k = l.length := by omega
        rw [List.take_length, hlen, List.take_length] at hn
        have HN := Lib.hid hn
        have HB := Lib.hid hb
        have hd3 : ¬ l.length < m.length := by omega
        clear hn hb hlen
        go_wp2_with fail
        go_ret
        exact ⟨ret1 (decide_eq_true HN.out).symm, HB.out⟩
  · have hd0 : ((l.length : Int) != (m.length : Int)) = true := by simp; omega
    have HLEN : Hid (decide (l = m) = false) := Lib.hid (decide_eq_false fun e => hlen (by rw [e]))
    clear hlen
    go_enter Tryd.func12, Tryd.ntmps12
    go_wp2_with fail
    go_ret
    exact ⟨ret1 HLEN.out.symm, Below.refl _ _⟩
end Go.Proofs.YtakamedgdiffbaaDoor.GraphC
namespace Go.Proofs.YtakamedgdiffbaaDoor.GraphC
set_option linter.unusedVariables false
open Go.RowKit Go.Proofs.YtakamedgdiffbaaDoor.NumC Go.Proofs.YtakamedgdiffbaaDoor.RowsC
open Go.Proofs.YtakamedgdiffbaaDoor.RefsC (Rc RAt hitsL)
abbrev Gl := List (Pt × List Rc)
structure Tp where
  r : Int
  c : Int
  A : Option Addr
  n : Nat
  k : Nat
def fT (t : Tp) : List Value := [.int .i64 t.r, .int .i64 t.c, .slice t.A t.n t.k]
def Bnd (G : Gl) : Prop := G.length ≤ 1000 ∧ ∀ x, x ∈ G → x.2.length ≤ 1000
def CellsPost (l : List Pt) (w : World) (e : Ending) (w' : World) : Prop := ∃ v, e = .returned v ∧ Owns fP 2 24 w' w.heap.size v l ∧ Below w.heap.size w w'
end Go.Proofs.YtakamedgdiffbaaDoor.GraphC
namespace Go.Proofs.YtakamedgdiffbaaDoor.GraphC
set_option linter.unusedVariables false
open Go.RowKit Go.Proofs.YtakamedgdiffbaaDoor.NumC Go.Proofs.YtakamedgdiffbaaDoor.RowsC
open Go.Proofs.YtakamedgdiffbaaDoor.RefsC (Rc RAt hitsL)
theorem direct_len (G : Gl) (l : List Pt) : (directL hitP G l).length ≤ G.length := by
  unfold directL; rw [List.length_map]; exact List.length_filter_le _ _
def EdgesPost (l : List Rc) (w : World) (e : Ending) (w' : World) : Prop := ∃ A c, e = .returned (.slice A l.length c) ∧ RAt w' w'.heap.size l A ∧ Below w.heap.size w w'
end Go.Proofs.YtakamedgdiffbaaDoor.GraphC
namespace Go.Proofs.YtakamedgdiffbaaDoor.GraphC
set_option linter.unusedVariables false
open Go.RowKit Go.Proofs.YtakamedgdiffbaaDoor.NumC Go.Proofs.YtakamedgdiffbaaDoor.RowsC
open Go.Proofs.YtakamedgdiffbaaDoor.RefsC (Rc RAt hitsL)
section
variable {A E : Type} {hit : E → A → Bool}
theorem pick_len (G : List (A × E)) (s : List Bool) : (pickL G s).length ≤ G.length := by
  induction G generalizing s with
  | nil => cases s <;> exact Nat.zero_le _
  | cons y G ih =>
    cases s with
    | nil => exact Nat.zero_le _
    | cons c s =>
      have := ih s
      unfold pickL
      split <;> simp only [List.length_cons] <;> omega
end
end Go.Proofs.YtakamedgdiffbaaDoor.GraphC
