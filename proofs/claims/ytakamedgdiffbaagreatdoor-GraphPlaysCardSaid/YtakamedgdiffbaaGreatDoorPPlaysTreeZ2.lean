/-
  Contract of tree's code: fits.
-/
import Derived.Test.YtakamedgdiffbaaGreatDoorPPlaysAddrA
import Derived.Test.YtakamedgdiffbaaGreatDoorPPlaysTreeA
import Derived.Test.YtakamedgdiffbaaGreatDoorPPlaysNumG
import Derived.Test.YtakamedgdiffbaaGreatDoorPPlaysNumN
import Derived.Test.YtakamedgdiffbaaGreatDoorProg
import Derived.Test.YtakamedgdiffbaaGreatDoorPPlaysNumM
import Derived.Test.YtakamedgdiffbaaGreatDoorPPlaysNumR
import Derived.Test.YtakamedgdiffbaaGreatDoorPPlaysTreeS
import Derived.Test.YtakamedgdiffbaaGreatDoorPPlaysLexZ3
import Derived.Test.YtakamedgdiffbaaGreatDoorPPlaysRefsM
import Derived.WalkKit
import Derived.WalkSpells
import Derived.WalkLawsBesides
import Derived.Deep.QuietTactic
import Derived.BigQuiet
import Derived.Lib.Hide
import Derived.Shelf.Lay
import Derived.Deep.DeepFit
import Derived.WalkSmall
import Derived.Lib.AppendIntMem
import Derived.Lib.AtoiErrMem
import Derived.Lib.Strings
import Derived.WideShapes
import Derived.Laws.RangeAny
import Derived.Maps.AppendAt
import Derived.OwnWalk
import Derived.Deep.AppendLies
import Derived.Deep.RegionWith
import Derived.Laws.IdiomStrings
import Derived.LoopTactic
import Derived.LoopN
import Derived.IntWalk
import Derived.Laws.StructEq
namespace Go.Proofs.YtakamedgdiffbaaGreatDoor.TreeC
set_option linter.unusedVariables false
open Go.RowKit Go.Proofs.YtakamedgdiffbaaGreatDoor.NumC Go.Proofs.YtakamedgdiffbaaGreatDoor.LexC
set_option maxHeartbeats 1000000 in
theorem eqIn_addr (a b a' b' : Int) (W : World) :
    (Op.equalIn 9999 35 (.agg #[.int .i64 a, .int .i64 b]) (.agg #[.int .i64 a', .int .i64 b'])).run Tryz.prog W = .ok (decide (a = a' ∧ b = b')) W := by
  have hS2 : Tryz.prog.underlying 35 = some (.struct (Tryz.prog.fieldsOf 35)) := by kernel_rfl
  have hp2 : Tryz.prog.stoodInHeld 35 = false := by kernel_rfl
  have a1 := Tryz.isAgg3; have z1 := Tryz.sizeOf3; have u1 := Tryz.underlying3
  rw [show (9999 : Nat) = 9998 + 1 from rfl, run_equalIn_agg W 9998 35 _ _ hS2 hp2]
  simp only [Program.fieldsOf, Tryz.underlying35]
  go_simp
  by_cases h1 : a = a' <;> by_cases h2 : b = b' <;> simp [h1, h2]
set_option maxHeartbeats 1000000 in
theorem eq_rect (a b c d a' b' c' d' : Int) (W : World) :
    (binOp .eql 51 (.agg #[.int .i64 a, .int .i64 b, .int .i64 c, .int .i64 d]) (.agg #[.int .i64 a', .int .i64 b', .int .i64 c', .int .i64 d'])).run Tryz.prog W = .ok (.bool (decide (a = a' ∧ b = b' ∧ c = c' ∧ d = d'))) W := by
  have hS : Tryz.prog.underlying 51 = some (.struct (Tryz.prog.fieldsOf 51)) := by kernel_rfl
  have hp : Tryz.prog.stoodInHeld 51 = false := by kernel_rfl
  rw [run_eql_struct, show (10000 : Nat) = 9999 + 1 from rfl, run_equalIn_agg W 9999 51 _ _ hS hp]
  simp only [Program.fieldsOf, Tryz.underlying51]
  have p0 : ∀ (x y z u : Int) (w : World), (part 35 #[.int .i64 x, .int .i64 y, .int .i64 z, .int .i64 u] 0).run Tryz.prog w = .ok (.agg #[.int .i64 x, .int .i64 y]) w := fun _ _ _ _ _ => by kernel_rfl
  have p2 : ∀ (x y z u : Int) (w : World), (part 35 #[.int .i64 x, .int .i64 y, .int .i64 z, .int .i64 u] 2).run Tryz.prog w = .ok (.agg #[.int .i64 z, .int .i64 u]) w := fun _ _ _ _ _ => by kernel_rfl
  simp only [Op.eqFields, Sem.run_bind, Sem.run_ite, p0, p2, eqIn_addr, Result.andThen]
  by_cases h1 : a = a' <;> by_cases h2 : b = b' <;> by_cases h3 : c = c' <;> by_cases h4 : d = d' <;> simp [h1, h2, h3, h4]
set_option maxHeartbeats 1000000 in
theorem eq_addr (a b a' b' : Int) (W : World) :
    (binOp .eql 35 (.agg #[.int .i64 a, .int .i64 b]) (.agg #[.int .i64 a', .int .i64 b'])).run Tryz.prog W = .ok (.bool (decide (a = a' ∧ b = b'))) W := by
  have hS2 : Tryz.prog.underlying 35 = some (.struct (Tryz.prog.fieldsOf 35)) := by kernel_rfl
  have hp2 : Tryz.prog.stoodInHeld 35 = false := by kernel_rfl
  have a1 := Tryz.isAgg3; have z1 := Tryz.sizeOf3; have u1 := Tryz.underlying3
  rw [run_eql_struct, show (10000 : Nat) = 9999 + 1 from rfl, run_equalIn_agg W 9999 35 _ _ hS2 hp2]
  simp only [Program.fieldsOf, Tryz.underlying35]
  go_simp
  by_cases h1 : a = a' <;> by_cases h2 : b = b' <;> simp [h1, h2]
end Go.Proofs.YtakamedgdiffbaaGreatDoor.TreeC
namespace Go.Proofs.YtakamedgdiffbaaGreatDoor.RefsC
set_option linter.unusedVariables false
open Go.RowKit Go.Proofs.YtakamedgdiffbaaGreatDoor.NumC
open Go.Proofs.YtakamedgdiffbaaGreatDoor.TreeC (eq_rect)
theorem neq_rc (x y : Rc) (W : World) : (binOp .neq 51 (.agg #[.int .i64 x.a, .int .i64 x.b, .int .i64 x.c, .int .i64 x.d]) (.agg #[.int .i64 y.a, .int .i64 y.b, .int .i64 y.c, .int .i64 y.d])).run Tryz.prog W = .ok (.bool (!decide (x = y))) W := by
  have h := eq_rect x.a x.b x.c x.d y.a y.b y.c y.d W
  have e : decide (x.a = y.a ∧ x.b = y.b ∧ x.c = y.c ∧ x.d = y.d) = decide (x = y) := by
    rw [decide_eq_decide]
    constructor
    · obtain ⟨a, b, c, d⟩ := x; obtain ⟨a', b', c', d'⟩ := y
      rintro ⟨h1, h2, h3, h4⟩
      simp only at h1 h2 h3 h4
      rw [h1, h2, h3, h4]
    · rintro rfl; exact ⟨rfl, rfl, rfl, rfl⟩
  rw [e, run_eql_struct] at h
  rw [run_neq_struct]
  cases hr : (Op.equalIn 10000 51 (.agg #[.int .i64 x.a, .int .i64 x.b, .int .i64 x.c, .int .i64 x.d]) (.agg #[.int .i64 y.a, .int .i64 y.b, .int .i64 y.c, .int .i64 y.d])).run Tryz.prog W with
  | ok v w' =>
    rw [hr] at h
    simp only [Result.andThen, Result.ok.injEq, Value.bool.injEq] at h ⊢
    obtain ⟨h1, h2⟩ := h
    rw [h1]; simp [h2]
  | halt e w' => rw [hr] at h; cases h
theorem take_ne {l m : List Rc} {k : Nat} {x y : Rc} (hx : l[k]? = some x) (hy : m[k]? = some y) (h : x ≠ y) : l ≠ m := by
  rintro rfl; rw [hx] at hy; exact h (Option.some.inj hy)
set_option maxHeartbeats 1000000 in
set_option maxRecDepth 100000 in
theorem kRects (l m : List Rc) (A C : Option Addr) (c d : Nat) (w : World) (hl : l.length ≤ 1000000) (hm : m.length ≤ 1000000) (hR : RAt w w.heap.size l A) (hS : RAt w w.heap.size m C) :
    Calls Tryz.prog 9 #[.slice A l.length c, .slice C m.length d] w fun e w' => e = .returned (.bool (decide (l = m))) ∧ Below w.heap.size w w' := by
  have HR := Lib.hid hR
  have HS := Lib.hid hS
  clear hR hS
  by_cases hlen : l.length = m.length
  · have hd0 : ((l.length : Int) != (m.length : Int)) = false := by simp [hlen]
    have HLEN := Lib.hid hlen
    go_enter Tryz.func9, Tryz.ntmps9
    go_wp2_with fail
    clear hd0
    go_loopw [5] (fun iv wr => ∃ k : Nat, k ≤ l.length ∧ iv = .int .i64 k ∧ Hid (Below w.heap.size w wr ∧ l.take k = m.take k)) (fun iv _ => l.length - (intOf iv).toNat)
    case atStart => exact ⟨0, Nat.zero_le _, rfl, Lib.hid ⟨Below.refl _ _, rfl⟩⟩
    case round =>
      obtain ⟨k, hk, rfl, HR2⟩ := hrel
      obtain ⟨hb, hn⟩ := HR2.out
      by_cases hlt : k < l.length
      · have hd1 : (k : Int) < (l.length : Int) := by omega
        have hd3 : (k : Int) < (m.length : Int) := by omega
        obtain ⟨x, hx⟩ := nth_some l k hlt
        obtain ⟨y, hy⟩ := nth_some m k (by omega)
        obtain ⟨g0, o, rfl, hg0, c0, c1, c2, c3⟩ := (HR.out.below hb).nth k x hx
        obtain ⟨g1, o1, rfl, hg1, d0, d1, d2, d3⟩ := (HS.out.below hb).nth k y hy
        have HB := Lib.hid hb
        have HN := Lib.hid hn
        have HX := Lib.hid hx
        have HY := Lib.hid hy
        have eN := neq_rc x y
        clear hb hn hx hy hlen
        cases hxy : decide (x = y)
        · have HXY := Lib.hid (of_decide_eq_false hxy)
          rw [hxy] at eN
          clear hxy
          go_wp2_with fail
          go_quiet (fail)
          go_wp2_with fail
          go_ret
          exact ⟨ret1 (decide_eq_false (take_ne HX.out HY.out HXY.out)).symm, below_drewN' HB.out _⟩
        · have HXY := Lib.hid (of_decide_eq_true hxy)
          rw [hxy] at eN
          clear hxy
          go_wp2_with fail
          go_quiet (fail)
          go_wp2_with fail
          go_roundw
          case rel => exact ⟨k + 1, by omega, by go_num, Lib.hid ⟨below_drewN' HB.out _, by rw [List.take_add_one, List.take_add_one, HN.out, HX.out, HY.out, HXY.out]⟩⟩
          case measure => simp [intOf]; omega
      · have hd1 : ¬ (k : Int) < (l.length : Int) := by omega
        obtain rfl : k = l.length := by omega
        rw [List.take_length, hlen, List.take_length] at hn
        have HN := Lib.hid hn
        have HB := Lib.hid hb
        have hd3 : ¬ l.length < m.length := by omega
        clear hn hb hlen
        go_wp2_with fail
        go_ret
        exact ⟨ret1 (decide_eq_true HN.out).symm, HB.out⟩
  · have hd0 : ((l.length : Int) != (m.length : Int)) = true := by simp; omega
    have HLEN : Hid (decide (l = m) = false) := Lib.hid (decide_eq_false fun e => hlen (by rw [e]))
    clear hlen
    go_enter Tryz.func9, Tryz.ntmps9
    go_wp2_with fail
    go_ret
    exact ⟨ret1 HLEN.out.symm, Below.refl _ _⟩
end Go.Proofs.YtakamedgdiffbaaGreatDoor.RefsC
namespace Go.Proofs.YtakamedgdiffbaaGreatDoor.RefsC
set_option linter.unusedVariables false
open Go.RowKit Go.Proofs.YtakamedgdiffbaaGreatDoor.NumC
set_option maxHeartbeats 1000000 in
set_option maxRecDepth 100000 in
theorem rHits (l : List Rc) (A : Option Addr) (c : Nat) (r k : Int) (w : World) (hl : l.length ≤ 1000000) (hR : RAt w w.heap.size l A) :
    Calls Tryz.prog 62 #[.slice A l.length c, .agg #[.int .i64 r, .int .i64 k]] w fun e w' => e = .returned (.bool (hitsL l r k)) ∧ Below w.heap.size w w' := by
  have bW : Below w.heap.size w (w.alloc (.cells #[.int .i64 r, .int .i64 k] 35)) := (Below.refl _ w).alloc (Nat.le_refl _) _
  have HC : Hid (∀ W : World, W = (w.alloc (.cells #[.int .i64 r, .int .i64 k] 35)) → W.cell? ⟨w.heap.size, 0, none⟩ = some (.int .i64 r) ∧ W.cell? ⟨w.heap.size, 1, none⟩ = some (.int .i64 k)) := Lib.hid (by rintro W rfl; simp [go_sem])
  have hs : w.heap.size < (w.alloc (.cells #[.int .i64 r, .int .i64 k] 35)).heap.size := by simp
  have HR := Lib.hid hR
  clear hR
  go_enter Tryz.func62, Tryz.ntmps62
  go_wp2_with fail
  have HC1 := HC.out _ rfl
  clear HC
  generalize (w.alloc (.cells #[.int .i64 r, .int .i64 k] 35)) = W at *
  have HC2 := Lib.hid HC1
  have HBW := Lib.hid bW
  clear HC1 bW
  go_loopw [5] (fun iv wr => ∃ j : Nat, j ≤ l.length ∧ iv = .int .i64 j ∧ Hid (Below W.heap.size W wr ∧ (l.take j).any (fun x => AddrC.hasB x.a x.b x.c x.d r k) = false)) (fun iv _ => l.length - (intOf iv).toNat)
  case atStart => exact ⟨0, Nat.zero_le _, rfl, Lib.hid ⟨Below.refl _ _, rfl⟩⟩
  case round =>
    obtain ⟨j, hk, rfl, HR2⟩ := hrel
    obtain ⟨hb, hn⟩ := HR2.out
    obtain ⟨h0, h1⟩ := HC2.out
    have hE : wr.cell? ⟨w.heap.size, 0, none⟩ = some (.int .i64 r) ∧ wr.cell? ⟨w.heap.size, 1, none⟩ = some (.int .i64 k) := ⟨(hb.cell (p := ⟨_, 0, none⟩) hs).trans h0, (hb.cell (p := ⟨_, 1, none⟩) hs).trans h1⟩
    obtain ⟨e0, e1⟩ := hE
    clear h0 h1
    by_cases hlt : j < l.length
    · have hd1 : (j : Int) < (l.length : Int) := by omega
      obtain ⟨x, hx⟩ := nth_some l j hlt
      obtain ⟨g0, o, rfl, hg0, c0, c1, c2, c3⟩ := (HR.out.below (HBW.out.trans (hb.mono HBW.out.size))).nth j x hx
      have HB := Lib.hid hb
      have HN : Hid ((l.take (j + 1)).any (fun x => AddrC.hasB x.a x.b x.c x.d r k) = AddrC.hasB x.a x.b x.c x.d r k) := Lib.hid (by rw [List.take_add_one, hx, List.any_append, hn]; simp)
      have HX := Lib.hid hx
      clear hb hn hx
      go_wp2_with fail
      refine region_tail 5 (by kernel_rfl) (by kernel_rfl) ?_
      simp only [List.take_succ_cons, List.take_zero, List.drop_succ_cons, List.drop_zero]
      replace e0 : wr.drew.cell? ⟨w.heap.size, 0, none⟩ = some (.int .i64 r) := e0
      replace e1 : wr.drew.cell? ⟨w.heap.size, 1, none⟩ = some (.int .i64 k) := e1
      replace c0 : wr.drew.cell? ⟨g0, o + j * 4, none⟩ = some (.int .i64 x.a) := c0
      replace c1 : wr.drew.cell? ⟨g0, o + j * 4 + 1, none⟩ = some (.int .i64 x.b) := c1
      replace c2 : wr.drew.cell? ⟨g0, o + j * 4 + 2, none⟩ = some (.int .i64 x.c) := c2
      replace c3 : wr.drew.cell? ⟨g0, o + j * 4 + 3, none⟩ = some (.int .i64 x.d) := c3
      replace HB : Hid (Below W.heap.size W wr.drew) := Lib.hid (below_drew HB.out)
      generalize wr.drew = V at *
      iterate 5 still_step
      refine wpStill_nil ?_
      go_wp2_with fail
      refine (AddrC.rhas _ _ _ _ _ _ _).mono ?_; rintro e w5 ⟨rfl, hb5⟩
      have HB5 := Lib.hid (HB.out.trans (hb5.mono HB.out.size))
      clear hb5 c0 c1 c2 c3 e0 e1
      cases hpx : AddrC.hasB x.a x.b x.c x.d r k
      · rw [hpx] at HN
        go_wp2_with fail
        go_roundw
        case rel => exact ⟨j + 1, by omega, by go_num, Lib.hid ⟨HB5.out, HN.out⟩⟩
        case measure => simp [intOf]; omega
      · have HY := Lib.hid hpx
        clear hpx
        go_wp2_with fail
        go_ret
        refine ⟨ret1 ?_, HBW.out.trans (HB5.out.mono HBW.out.size)⟩
        exact (List.any_eq_true.2 ⟨x, List.mem_of_getElem? HX.out, HY.out⟩).symm
    · have hd1 : ¬ (j : Int) < (l.length : Int) := by omega
      obtain rfl : j = l.length := by omega
      rw [List.take_length] at hn
      have HN := Lib.hid hn
      have HB := Lib.hid hb
      clear hn hb
      go_wp2_with fail
      go_ret
      exact ⟨ret1 HN.out.symm, HBW.out.trans (HB.out.mono HBW.out.size)⟩
end Go.Proofs.YtakamedgdiffbaaGreatDoor.RefsC
namespace Go.Proofs.YtakamedgdiffbaaGreatDoor.RefsC
set_option linter.unusedVariables false
open Go.RowKit Go.Proofs.YtakamedgdiffbaaGreatDoor.NumC
open Go.Proofs.YtakamedgdiffbaaGreatDoor.TreeC (eq_rect eq_addr addr_add0 addr_add below_grown)
def rcells (l : List Rc) : List Value := l.flatMap fun x => [.int .i64 x.a, .int .i64 x.b, .int .i64 x.c, .int .i64 x.d]
theorem rcells_cons (x : Rc) (l : List Rc) : rcells (x :: l) = .int .i64 x.a :: .int .i64 x.b :: .int .i64 x.c :: .int .i64 x.d :: rcells l := rfl
theorem rcells_app (l m : List Rc) : rcells (l ++ m) = rcells l ++ rcells m := by unfold rcells; rw [List.flatMap_append]
theorem rcells_len (l : List Rc) : (rcells l).length = l.length * 4 := by
  induction l with
  | nil => rfl
  | cons x l ih => rw [rcells_cons, List.length_cons, List.length_cons, List.length_cons, List.length_cons, ih, List.length_cons]; omega
theorem rcells_one (l : List Rc) : ∀ u ∈ rcells l, u.oneCell' = true := by
  induction l with
  | nil => intro u hu; cases hu
  | cons x l ih =>
    intro u hu
    rw [rcells_cons] at hu
    simp only [List.mem_cons] at hu
    rcases hu with rfl | rfl | rfl | rfl | hu
    · rfl
    · rfl
    · rfl
    · rfl
    · exact ih u hu
theorem rcells_at (l : List Rc) : ∀ (i : Nat) (x : Rc), l[i]? = some x → (rcells l)[i * 4]? = some (.int .i64 x.a) ∧ (rcells l)[i * 4 + 1]? = some (.int .i64 x.b) ∧ (rcells l)[i * 4 + 2]? = some (.int .i64 x.c) ∧ (rcells l)[i * 4 + 3]? = some (.int .i64 x.d) := by
  induction l with
  | nil => intro i x h; cases h
  | cons y l ih =>
    intro i x h
    cases i with
    | zero => cases h; exact ⟨rfl, rfl, rfl, rfl⟩
    | succ i =>
      obtain ⟨h0, h1, h2, h3⟩ := ih i x h
      rw [rcells_cons, show (i + 1) * 4 = i * 4 + 1 + 1 + 1 + 1 from by omega, show i * 4 + 1 + 1 + 1 + 1 + 1 = (i * 4 + 1) + 1 + 1 + 1 + 1 from by omega, show i * 4 + 1 + 1 + 1 + 1 + 2 = (i * 4 + 2) + 1 + 1 + 1 + 1 from by omega, show i * 4 + 1 + 1 + 1 + 1 + 3 = (i * 4 + 3) + 1 + 1 + 1 + 1 from by omega]
      simp only [List.getElem?_cons_succ]
      exact ⟨h0, h1, h2, h3⟩
theorem RAt.cells {w : World} {B : Nat} {l : List Rc} {A : Option Addr} (h : RAt w B l A) (hne : l ≠ []) : ∃ g o, A = some ⟨g, o, none⟩ ∧ g < B ∧ ∀ j u, (rcells l)[j]? = some u → w.cell? ⟨g, o + j, none⟩ = some u := by
  rcases h with h | ⟨g, o, e, hg, h⟩
  · exact absurd h hne
  · refine ⟨g, o, e, hg, fun j u hj => ?_⟩
    have hl : j < (rcells l).length := (List.getElem?_eq_some_iff.1 hj).1
    rw [rcells_len] at hl
    obtain ⟨x, hx⟩ := nth_some l (j / 4) (by omega)
    obtain ⟨c0, c1, c2, c3⟩ := h _ x hx
    obtain ⟨r0, r1, r2, r3⟩ := rcells_at l _ x hx
    have h4 : j = j / 4 * 4 ∨ j = j / 4 * 4 + 1 ∨ j = j / 4 * 4 + 2 ∨ j = j / 4 * 4 + 3 := by omega
    rcases h4 with h4 | h4 | h4 | h4
    · rw [h4, r0] at hj; cases hj; rw [h4]; exact c0
    · rw [h4, r1] at hj; cases hj; rw [h4]; exact c1
    · rw [h4, r2] at hj; cases hj; rw [h4]; exact c2
    · rw [h4, r3] at hj; cases hj; rw [h4]; exact c3
def OS (w : World) (B : Nat) (v : Value) (l : List Rc) : Prop := w.ownsRow B 51 4 v l.length (rcells l)
theorem OS.nil (w : World) (B : Nat) : OS w B (.slice none 0 0) [] := ⟨rfl, Or.inl ⟨rfl, rfl⟩⟩
theorem OS.form {w : World} {B : Nat} {v : Value} {l : List Rc} (h : OS w B v l) : ∃ A c, v = .slice A l.length c := by
  obtain ⟨-, ⟨rfl, h⟩ | ⟨g, cap, cur, rfl, -⟩⟩ := h
  · exact ⟨none, 0, by rw [h]⟩
  · exact ⟨_, _, rfl⟩
theorem OS.lt {w : World} {B : Nat} {v : Value} {l : List Rc} (h : OS w B v l) : ∀ k, v.ownBlock = some k → B ≤ k ∧ k < w.heap.size := World.ownsRow.lt h
theorem OS.below {w w' : World} {B : Nat} {v : Value} {l : List Rc} (h : OS w B v l) (hk : Below w.heap.size w w') : OS w' B v l := by
  obtain ⟨h1, h2⟩ := h
  refine ⟨h1, ?_⟩
  rcases h2 with h2 | ⟨g, cap, cur, e, hb, hg, h⟩
  · exact Or.inl h2
  · exact Or.inr ⟨g, cap, cur, e, hb, (hk.block g (Array.getElem?_eq_some_iff.1 hg).1).trans hg, h⟩
theorem OS.mono {w : World} {B C : Nat} {v : Value} {l : List Rc} (h : OS w B v l) (hb : C ≤ B) : OS w C v l := by
  obtain ⟨h1, h2⟩ := h
  refine ⟨h1, ?_⟩
  rcases h2 with h2 | ⟨g, cap, cur, e, hb2, h⟩
  · exact Or.inl h2
  · exact Or.inr ⟨g, cap, cur, e, Nat.le_trans hb hb2, h⟩
theorem OS.rat {w : World} {B c n : Nat} {A : Option Addr} {l : List Rc} (h : OS w B (.slice A n c) l) : n = l.length ∧ RAt w w.heap.size l A := by
  have hc := fun g hg => World.ownsRow.cells (g := g) h hg
  obtain ⟨h1, ⟨h2, h3⟩ | ⟨g, cap, cur, e, hb, hg, h2⟩⟩ := h
  · cases h2; exact ⟨h3.symm, Or.inl (List.length_eq_zero_iff.1 h3)⟩
  · injection e with e1 e2 e3
    subst e1 e2 e3
    refine ⟨rfl, Or.inr ⟨g, 0, rfl, (Array.getElem?_eq_some_iff.1 hg).1, fun i x hx => ?_⟩⟩
    obtain ⟨r0, r1, r2, r3⟩ := rcells_at l i x hx
    have hh : ∀ j u, (rcells l)[j]? = some u → w.cell? ⟨g, 0 + j, none⟩ = some u := fun j u hj => by
      have := hc g rfl j u hj
      rwa [addr_add0, ← Nat.zero_add j] at this
    exact ⟨hh _ _ r0, hh _ _ r1, hh _ _ r2, hh _ _ r3⟩
set_option maxHeartbeats 1000000 in
set_option maxRecDepth 100000 in
theorem rAhead (x y : Rc) (w : World) : Calls Tryz.prog 59 #[.agg #[.int .i64 x.a, .int .i64 x.b, .int .i64 x.c, .int .i64 x.d], .agg #[.int .i64 y.a, .int .i64 y.b, .int .i64 y.c, .int .i64 y.d]] w fun e w' => e = .returned (.bool (aheadB x y)) ∧ Below w.heap.size w w' := by
  have eA : ∀ W, (binOp .neq 35 (.agg #[.int .i64 x.a, .int .i64 x.b]) (.agg #[.int .i64 y.a, .int .i64 y.b])).run Tryz.prog W = .ok (.bool (!decide (x.a = y.a ∧ x.b = y.b))) W := fun W => by
    have h := eq_addr x.a x.b y.a y.b W
    rw [run_eql_struct] at h
    rw [run_neq_struct]
    cases hr : (Op.equalIn 10000 35 (.agg #[.int .i64 x.a, .int .i64 x.b]) (.agg #[.int .i64 y.a, .int .i64 y.b])).run Tryz.prog W with
    | ok v w' =>
      rw [hr] at h
      simp only [Result.andThen, Result.ok.injEq, Value.bool.injEq] at h ⊢
      obtain ⟨h1, h2⟩ := h
      rw [h1]; simp [h2]
    | halt e w' => rw [hr] at h; cases h
  by_cases h : x.a = y.a ∧ x.b = y.b
  · have E : Hid (AddrC.beforeB x.c x.d y.c y.d = aheadB x y) := Lib.hid (by unfold aheadB; rw [if_pos h])
    rw [decide_eq_true h] at eA
    clear h
    go_enter Tryz.func59, Tryz.ntmps59
    go_wp2_with fail
    refine (AddrC.rbefore _ _ _ _ _).mono ?_; rw [E.out]; rintro e w1 ⟨rfl, hb1⟩
    go_wp2_with fail
    go_ret
    exact ⟨rfl, AddrC.grow (AddrC.grow hb1)⟩
  · have E : Hid (AddrC.beforeB x.a x.b y.a y.b = aheadB x y) := Lib.hid (by unfold aheadB; rw [if_neg h])
    rw [decide_eq_false h] at eA
    clear h
    go_enter Tryz.func59, Tryz.ntmps59
    go_wp2_with fail
    refine (AddrC.rbefore _ _ _ _ _).mono ?_; rw [E.out]; rintro e w1 ⟨rfl, hb1⟩
    go_wp2_with fail
    go_ret
    exact ⟨rfl, AddrC.grow (AddrC.grow hb1)⟩
end Go.Proofs.YtakamedgdiffbaaGreatDoor.RefsC
