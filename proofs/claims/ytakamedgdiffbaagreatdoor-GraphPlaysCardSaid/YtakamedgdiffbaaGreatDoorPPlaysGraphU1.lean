/-
  The walk over a graph in memory, and what its steps leave.
-/
import Derived.Test.YtakamedgdiffbaaGreatDoorPPlaysGraphV2
import Derived.Deep.RegionHeld3
import Derived.Deep.MidRow
namespace Go.Proofs.YtakamedgdiffbaaGreatDoor.GraphC
set_option linter.unusedVariables false
open Go.RowKit Go.Proofs.YtakamedgdiffbaaGreatDoor.NumC Go.Proofs.YtakamedgdiffbaaGreatDoor.RowsC
open Go.Proofs.YtakamedgdiffbaaGreatDoor.RefsC (Rc RAt hitsL RBox Srt)
open Go.Proofs.YtakamedgdiffbaaGreatDoor.TreeC (Kept)
def refsP (G : Gl) (i : Nat) : List Nat := (List.range G.length).filter fun j => match G[i]?, G[j]? with | some x, some y => hitP x.2 y.1 | _, _ => false
theorem refs_lt {G : Gl} {i j : Nat} (h : j ∈ refsP G i) : j < G.length := List.mem_range.1 (List.mem_filter.1 h).1
theorem refs_len (G : Gl) (i : Nat) : (refsP G i).length ≤ G.length := Nat.le_trans (List.length_filter_le _ _) (by simp)
theorem mem_refs {G : Gl} {i j : Nat} {x y : Pt × List Rc} (hx : G[i]? = some x) (hy : G[j]? = some y) : j ∈ refsP G i ↔ hitP x.2 y.1 = true := by
  unfold refsP
  rw [List.mem_filter, hx, hy, List.mem_range]
  exact ⟨fun h => h.2, fun h => ⟨(List.getElem?_eq_some_iff.1 hy).1, h⟩⟩
structure WL where
  b : Nat
  gr : Nat
  ga : Nat
  gf : Nat
  cA : Option Addr
  cc : Nat
def fN (n : Nat) : List Value := [.int .i64 (n : Int)]
theorem kindN : Kind fN 1 76 3 where
  row := ⟨fun _ => rfl, fun x u hu => by
    simp only [fN, List.mem_cons, List.not_mem_nil, or_false] at hu
    rw [hu]; rfl, by decide⟩
  under := Tryz.underlying76
  info := ⟨.int .i64 0, 8, by kernel_rfl, rfl, by decide⟩
structure WS (w : World) (B : Nat) (P N Q : Nat → Prop) (mo : Option Nat) (G : Gl) (L : WL) (v : Value) (σ : Wk) : Prop where
  base : B ≤ w.heap.size
  mp : MapV w Q mo G
  qlow : ∀ k, Q k → k < B
  plow : ∀ k, P k → B ≤ k ∧ k < w.heap.size
  nlow : ∀ k, N k → B ≤ k ∧ k < w.heap.size
  pn : ∀ k, P k → ¬ N k
  pb : P L.b
  pr : P L.gr
  pa : P L.ga
  pf : P L.gf
  po : ∀ k, v.ownBlock = some k → P k ∧ k ≠ L.b ∧ k ≠ L.gr ∧ k ≠ L.ga ∧ k ≠ L.gf
  d1 : L.b ≠ L.gr ∧ L.b ≠ L.ga ∧ L.b ≠ L.gf ∧ L.gr ≠ L.ga ∧ L.gr ≠ L.gf ∧ L.ga ≠ L.gf
  st : w.heap[L.b]? = some (.cells #[.map mo, .slice L.cA G.length L.cc, .slice (some ⟨L.gr, 0, none⟩) G.length G.length, .slice (some ⟨L.ga, 0, none⟩) G.length G.length, v, .slice (some ⟨L.gf, 0, none⟩) G.length G.length] 78 (0, 0))
  cells : Reads fP 2 w w.heap.size (cellsL G) L.cA
  cn : G ≠ [] → ∀ a, L.cA = some a → N a.block
  refs : ∀ i, i < G.length → w.frozen? ⟨L.gr, i, none⟩ = false ∧ ∃ A m c, w.cell? ⟨L.gr, i, none⟩ = some (.slice A m c) ∧ (σ.f i ≠ 0 → m = (refsP G i).length ∧ Reads fN 1 w w.heap.size (refsP G i) A ∧ (refsP G i ≠ [] → ∀ a, A = some a → N a.block))
  alls : ∀ i, i < G.length → SAt w L.ga (i * 16) (σ.al i)
  opn : Owns fN 1 3 w B v σ.op
  firsts : ∀ i, i < G.length → w.cell? ⟨L.gf, i, none⟩ = some (.int .i64 (σ.f i : Int)) ∧ w.frozen? ⟨L.gf, i, none⟩ = false
theorem reads_same {α : Type} {f : α → List Value} {n : Nat} {w w' : World} {l : List α} {A : Option Addr} (h : Reads f n w w.heap.size l A) (hs : w.heap.size ≤ w'.heap.size) (hk : l ≠ [] → ∀ a, A = some a → w'.heap[a.block]? = w.heap[a.block]?) : Reads f n w' w'.heap.size l A := by
  rcases h with h | ⟨g, o, e, hg, h⟩
  · exact Or.inl h
  · refine Or.inr ⟨g, o, e, by omega, fun i x hx j u hj => ?_⟩
    have hne : l ≠ [] := by rintro rfl; cases hx
    exact (World.cell?_of_block (show w'.heap[g]? = w.heap[g]? from hk hne _ e)).trans (h i x hx j u hj)
theorem owns_same {α : Type} {f : α → List Value} {n : Nat} {ty : TypeId} {w w' : World} {B : Nat} {v : Value} {l : List α} (h : Owns f n ty w B v l) (hk : ∀ k, v.ownBlock = some k → w'.heap[k]? = w.heap[k]?) : Owns f n ty w' B v l := by
  obtain ⟨h1, h2⟩ := h
  refine ⟨h1, ?_⟩
  rcases h2 with h2 | ⟨g, cap, cur, e, hb, hg, h⟩
  · exact Or.inl h2
  · exact Or.inr ⟨g, cap, cur, e, hb, (hk g (by rw [e]; rfl)).trans hg, h⟩
section
variable {w w' : World} {B : Nat} {P N Q : Nat → Prop} {mo : Option Nat} {G : Gl} {L : WL} {v : Value} {σ : Wk}
theorem WS.lens (h : WS w B P N Q mo G L v σ) : (cellsL G).length = G.length := by unfold cellsL; rw [List.length_map]
theorem WS.cell (h : WS w B P N Q mo G L v σ) : w.cell? ⟨L.b, 0, none⟩ = some (.map mo) ∧ w.cell? ⟨L.b, 1, none⟩ = some (.slice L.cA G.length L.cc) ∧ w.cell? ⟨L.b, 2, none⟩ = some (.slice (some ⟨L.gr, 0, none⟩) G.length G.length) ∧
    w.cell? ⟨L.b, 3, none⟩ = some (.slice (some ⟨L.ga, 0, none⟩) G.length G.length) ∧ w.cell? ⟨L.b, 4, none⟩ = some v ∧ w.cell? ⟨L.b, 5, none⟩ = some (.slice (some ⟨L.gf, 0, none⟩) G.length G.length) := by
  have h1 := h.st
  refine ⟨?_, ?_, ?_, ?_, ?_, ?_⟩ <;> simp [World.cell?, h1]
theorem WS.stay (h : WS w B P N Q mo G L v σ) (hs : w.heap.size ≤ w'.heap.size) (hk : ∀ k, k < w.heap.size → (k < B ∨ P k ∨ N k) → w'.heap[k]? = w.heap[k]?) : WS w' B P N Q mo G L v σ :=
  { h with
    base := Nat.le_trans h.base hs
    mp := h.mp.keep hs fun k hq hlt => hk k hlt (Or.inl (h.qlow k hq))
    plow := fun k hp => ⟨(h.plow k hp).1, Nat.lt_of_lt_of_le (h.plow k hp).2 hs⟩
    nlow := fun k hp => ⟨(h.nlow k hp).1, Nat.lt_of_lt_of_le (h.nlow k hp).2 hs⟩
    st := (hk _ (h.plow _ h.pb).2 (Or.inr (Or.inl h.pb))).trans h.st
    cells := reads_same h.cells hs fun hne a e => hk _ (h.nlow _ (h.cn (by rintro rfl; exact hne rfl) a e)).2 (Or.inr (Or.inr (h.cn (by rintro rfl; exact hne rfl) a e)))
    refs := fun i hi => by
      obtain ⟨h1, A, m, c, h2, h3⟩ := h.refs i hi
      have e := hk _ (h.plow _ h.pr).2 (Or.inr (Or.inl h.pr))
      refine ⟨(World.frozen?_of_block e).trans h1, A, m, c, (World.cell?_of_block e).trans h2, fun hf => ?_⟩
      obtain ⟨q1, q2, q3⟩ := h3 hf
      exact ⟨q1, reads_same q2 hs fun hne a e => hk _ (h.nlow _ (q3 hne a e)).2 (Or.inr (Or.inr (q3 hne a e))), q3⟩
    alls := fun i hi => (h.alls i hi).block (hk _ (h.plow _ h.pa).2 (Or.inr (Or.inl h.pa)))
    opn := owns_same h.opn fun k e => hk k (h.plow k (h.po k e).1).2 (Or.inr (Or.inl (h.po k e).1))
    firsts := fun i hi => by
      have e := hk _ (h.plow _ h.pf).2 (Or.inr (Or.inl h.pf))
      exact ⟨(World.cell?_of_block e).trans (h.firsts i hi).1, (World.frozen?_of_block e).trans (h.firsts i hi).2⟩ }
theorem WS.under (h : WS w B P N Q mo G L v σ) (hb : Below w.heap.size w w') : WS w' B P N Q mo G L v σ := h.stay hb.size fun k hk _ => hb.block k hk
theorem WS.setF (h : WS w B P N Q mo G L v σ) (i x : Nat) (hi : i < G.length) (hx : x = 0 ∨ σ.f i ≠ 0 ∨ (∃ A m c, w.cell? ⟨L.gr, i, none⟩ = some (.slice A m c) ∧ m = (refsP G i).length ∧ Reads fN 1 w w.heap.size (refsP G i) A ∧ (refsP G i ≠ [] → ∀ a, A = some a → N a.block))) :
    WS (w.setCell ⟨L.gf, i, none⟩ (.int .i64 (x : Int))) B P N Q mo G L v { σ with f := upd σ.f i x } ∧ Kept L.gf w (w.setCell ⟨L.gf, i, none⟩ (.int .i64 (x : Int))) := by
  have hK : Kept L.gf w (w.setCell ⟨L.gf, i, none⟩ (.int .i64 (x : Int))) := (Kept.refl _ w).setCell i _
  have hs := hK.size
  have hb : ∀ k, k < w.heap.size → k ≠ L.gf → (w.setCell ⟨L.gf, i, none⟩ (.int .i64 (x : Int))).heap[k]? = w.heap[k]? := hK.block
  have hnf : ∀ k, N k → k ≠ L.gf := fun k hn e => h.pn _ h.pf (e ▸ hn)
  refine ⟨{ h with base := Nat.le_trans h.base hs, mp := h.mp.keep hs fun k hq hlt => hb k hlt ?_, plow := fun k hp => ⟨(h.plow k hp).1, Nat.lt_of_lt_of_le (h.plow k hp).2 hs⟩, nlow := fun k hp => ⟨(h.nlow k hp).1, Nat.lt_of_lt_of_le (h.nlow k hp).2 hs⟩, st := (hb _ (h.plow _ h.pb).2 h.d1.2.2.1).trans h.st, cells := reads_same h.cells hs fun hne a e => hb _ (h.nlow _ (h.cn (by rintro rfl; exact hne rfl) a e)).2 (hnf _ (h.cn (by rintro rfl; exact hne rfl) a e)), refs := fun j hj => ?_, alls := fun j hj => (h.alls j hj).block (hb _ (h.plow _ h.pa).2 h.d1.2.2.2.2.2), opn := owns_same h.opn fun k e => hb k (h.plow k (h.po k e).1).2 (h.po k e).2.2.2.2, firsts := fun j hj => ?_ }, hK⟩
  · have h1 := h.qlow k hq
    have h2 := (h.plow _ h.pf).1
    omega
  · obtain ⟨h1, A, m, c, h2, h3⟩ := h.refs j hj
    have e := hb _ (h.plow _ h.pr).2 h.d1.2.2.2.2.1
    refine ⟨(World.frozen?_of_block e).trans h1, A, m, c, (World.cell?_of_block e).trans h2, fun hf => ?_⟩
    have key : m = (refsP G j).length ∧ Reads fN 1 w w.heap.size (refsP G j) A ∧ (refsP G j ≠ [] → ∀ a, A = some a → N a.block) := by
      by_cases e2 : j = i
      · subst e2
        change upd σ.f j x j ≠ 0 at hf
        rw [upd_self] at hf
        rcases hx with hx | hx | ⟨A', m', c', q1, q2⟩
        · exact absurd hx hf
        · exact h3 hx
        · rw [h2] at q1; cases q1; exact q2
      · change upd σ.f i x j ≠ 0 at hf
        rw [upd_ne _ _ e2] at hf; exact h3 hf
    obtain ⟨q1, q2, q3⟩ := key
    exact ⟨q1, reads_same q2 hs fun hne a e => hb _ (h.nlow _ (q3 hne a e)).2 (hnf _ (q3 hne a e)), q3⟩
  · show (w.setCell ⟨L.gf, i, none⟩ (.int .i64 (x : Int))).cell? ⟨L.gf, j, none⟩ = some (.int .i64 ((upd σ.f i x j : Nat) : Int)) ∧ _
    refine ⟨?_, by rw [World.frozen?_setCell]; exact (h.firsts j hj).2⟩
    by_cases e : j = i
    · subst e
      rw [upd_self]
      exact World.cell?_setCell_same _ _ _ (h.firsts j hj).1
    · rw [upd_ne _ _ e, World.cell?_setCell_other _ _ _ _ (fun q => e (by injection q with _ q; exact q.symm))]
      exact (h.firsts j hj).1
theorem WS.setR (h : WS w B P N Q mo G L v σ) (i : Nat) (hi : i < G.length) (A : Option Addr) (m c : Nat) (N' : Nat → Prop) (h1 : m = (refsP G i).length) (h2 : Reads fN 1 w w.heap.size (refsP G i) A) (h3 : refsP G i ≠ [] → ∀ a, A = some a → N' a.block)
    (hN : ∀ k, N k → N' k) (hN2 : ∀ k, N' k → B ≤ k ∧ k < w.heap.size ∧ ¬ P k) :
    WS (w.setCell ⟨L.gr, i, none⟩ (.slice A m c)) B P N' Q mo G L v σ ∧ Kept L.gr w (w.setCell ⟨L.gr, i, none⟩ (.slice A m c)) ∧
      ∃ A1 m1 c1, (w.setCell ⟨L.gr, i, none⟩ (.slice A m c)).cell? ⟨L.gr, i, none⟩ = some (.slice A1 m1 c1) ∧ m1 = (refsP G i).length ∧ Reads fN 1 (w.setCell ⟨L.gr, i, none⟩ (.slice A m c)) (w.setCell ⟨L.gr, i, none⟩ (.slice A m c)).heap.size (refsP G i) A1 ∧ (refsP G i ≠ [] → ∀ a, A1 = some a → N' a.block) := by
  have hK : Kept L.gr w (w.setCell ⟨L.gr, i, none⟩ (.slice A m c)) := (Kept.refl _ w).setCell i _
  have hs := hK.size
  have hb : ∀ k, k < w.heap.size → k ≠ L.gr → (w.setCell ⟨L.gr, i, none⟩ (.slice A m c)).heap[k]? = w.heap[k]? := hK.block
  have hng : ∀ k, N' k → k ≠ L.gr := fun k hn e => (hN2 k hn).2.2 (e ▸ h.pr)
  have hread : Reads fN 1 (w.setCell ⟨L.gr, i, none⟩ (.slice A m c)) (w.setCell ⟨L.gr, i, none⟩ (.slice A m c)).heap.size (refsP G i) A := reads_same h2 hs fun hne a e => hb _ (hN2 _ (h3 hne a e)).2.1 (hng _ (h3 hne a e))
  obtain ⟨-, A0, m0, c0, hold, -⟩ := h.refs i hi
  have hnew : (w.setCell ⟨L.gr, i, none⟩ (.slice A m c)).cell? ⟨L.gr, i, none⟩ = some (.slice A m c) := World.cell?_setCell_same _ _ _ hold
  refine ⟨{ h with base := Nat.le_trans h.base hs, mp := h.mp.keep hs fun k hq hlt => hb k hlt ?_, plow := fun k hp => ⟨(h.plow k hp).1, Nat.lt_of_lt_of_le (h.plow k hp).2 hs⟩, nlow := fun k hp => ⟨(hN2 k hp).1, Nat.lt_of_lt_of_le (hN2 k hp).2.1 hs⟩, pn := fun k hp hn => (hN2 k hn).2.2 hp, st := (hb _ (h.plow _ h.pb).2 h.d1.1).trans h.st, cells := reads_same h.cells hs fun hne a e => hb _ (h.nlow _ (h.cn (by rintro rfl; exact hne rfl) a e)).2 (hng _ (hN _ (h.cn (by rintro rfl; exact hne rfl) a e))), cn := fun hne a e => hN _ (h.cn hne a e), refs := fun j hj => ?_, alls := fun j hj => (h.alls j hj).block (hb _ (h.plow _ h.pa).2 (fun e => h.d1.2.2.2.1 e.symm)), opn := owns_same h.opn fun k e => hb k (h.plow k (h.po k e).1).2 (h.po k e).2.2.1, firsts := fun j hj => ?_ }, hK, A, m, c, hnew, h1, hread, h3⟩
  · have h1 := h.qlow k hq
    have h2 := (h.plow _ h.pr).1
    omega
  · obtain ⟨q1, A1, m1, c1, q2, q3⟩ := h.refs j hj
    refine ⟨by rw [World.frozen?_setCell]; exact q1, ?_⟩
    by_cases e : j = i
    · subst e
      exact ⟨A, m, c, hnew, fun _ => ⟨h1, hread, h3⟩⟩
    · refine ⟨A1, m1, c1, by rw [World.cell?_setCell_other _ _ _ _ (fun q => e (by injection q with _ q; exact q.symm))]; exact q2, fun hf => ?_⟩
      obtain ⟨z1, z2, z3⟩ := q3 hf
      exact ⟨z1, reads_same z2 hs fun hne a e => hb _ (h.nlow _ (z3 hne a e)).2 (hng _ (hN _ (z3 hne a e))), fun hne a e => hN _ (z3 hne a e)⟩
  · have e := hb _ (h.plow _ h.pf).2 (fun e => h.d1.2.2.2.2.1 e.symm)
    exact ⟨(World.cell?_of_block e).trans (h.firsts j hj).1, (World.frozen?_of_block e).trans (h.firsts j hj).2⟩
theorem WS.setV (h : WS w B P N Q mo G L v σ) {w5 : World} {v' : Value} {op' : List Nat} (hs5 : w.heap.size ≤ w5.heap.size) (hb5 : ∀ k, k < w.heap.size → v.ownBlock ≠ some k → w5.heap[k]? = w.heap[k]?) (ho : Owns fN 1 3 w5 B v' op') (hv : v'.ownBlock = none ∨ v'.ownBlock = v.ownBlock ∨ ∃ k, v'.ownBlock = some k ∧ w.heap.size ≤ k) :
    WS (w5.setCell ⟨L.b, 4, none⟩ v') B (fun k => P k ∨ v'.ownBlock = some k) N Q mo G L v' { σ with op := op' } ∧ But (fun k => k = L.b) w5 (w5.setCell ⟨L.b, 4, none⟩ v') := by
  have hK : Kept L.b w5 (w5.setCell ⟨L.b, 4, none⟩ v') := (Kept.refl _ w5).setCell 4 _
  have hs : w.heap.size ≤ (w5.setCell ⟨L.b, 4, none⟩ v').heap.size := Nat.le_trans hs5 hK.size
  have vb : v.ownBlock ≠ some L.b := fun e => (h.po _ e).2.1 rfl
  have vr : v.ownBlock ≠ some L.gr := fun e => (h.po _ e).2.2.1 rfl
  have va : v.ownBlock ≠ some L.ga := fun e => (h.po _ e).2.2.2.1 rfl
  have vf : v.ownBlock ≠ some L.gf := fun e => (h.po _ e).2.2.2.2 rfl
  have hb : ∀ k, k < w.heap.size → v.ownBlock ≠ some k → k ≠ L.b → (w5.setCell ⟨L.b, 4, none⟩ v').heap[k]? = w.heap[k]? := fun k hk h1 h2 => (hK.block k (by omega) h2).trans (hb5 k hk h1)
  have vn : ∀ k, N k → v.ownBlock ≠ some k ∧ k ≠ L.b := fun k hn => ⟨fun e => h.pn k (h.po k e).1 hn, fun e => h.pn _ h.pb (e ▸ hn)⟩
  have hst5 : w5.heap[L.b]? = _ := (hb5 L.b (h.plow _ h.pb).2 vb).trans h.st
  have hlt5 := ho.lt
  have ne' : ∀ k, v'.ownBlock = some k → k ≠ L.b ∧ k ≠ L.gr ∧ k ≠ L.ga ∧ k ≠ L.gf ∧ ¬ N k := fun k e => by
    rcases hv with hv | hv | ⟨k', hv, hk'⟩
    · rw [hv] at e; cases e
    · rw [hv] at e
      have := h.po k e
      exact ⟨this.2.1, this.2.2.1, this.2.2.2.1, this.2.2.2.2, h.pn k this.1⟩
    · rw [hv] at e; cases e
      have h1 := (h.plow _ h.pb).2
      have h2 := (h.plow _ h.pr).2
      have h3 := (h.plow _ h.pa).2
      have h4 := (h.plow _ h.pf).2
      exact ⟨by omega, by omega, by omega, by omega, fun hn => by have := (h.nlow _ hn).2; omega⟩
  refine ⟨{ h with base := Nat.le_trans h.base hs, mp := h.mp.keep hs fun k hq hlt => hb k hlt ?_ ?_, plow := fun k hp => ?_, nlow := fun k hp => ⟨(h.nlow k hp).1, Nat.lt_of_lt_of_le (h.nlow k hp).2 hs⟩, pn := fun k hp hn => ?_, pb := Or.inl h.pb, pr := Or.inl h.pr, pa := Or.inl h.pa, pf := Or.inl h.pf, po := fun k e => ⟨Or.inr e, (ne' k e).1, (ne' k e).2.1, (ne' k e).2.2.1, (ne' k e).2.2.2.1⟩, st := ?_, cells := reads_same h.cells hs fun hne a e => hb _ (h.nlow _ (h.cn (by rintro rfl; exact hne rfl) a e)).2 (vn _ (h.cn (by rintro rfl; exact hne rfl) a e)).1 (vn _ (h.cn (by rintro rfl; exact hne rfl) a e)).2, refs := fun j hj => ?_, alls := fun j hj => (h.alls j hj).block (hb _ (h.plow _ h.pa).2 va (fun e => h.d1.2.1 e.symm)), opn := owns_same ho fun k e => hK.block k (hlt5 k e).2 (ne' k e).1, firsts := fun j hj => ?_ }, ⟨hK.os, hK.tape, hK.output, hK.size, fun k hk hn => hK.block k hk hn⟩⟩
  · intro e
    have h1 := h.qlow k hq
    have h2 := (h.plow _ (h.po k e).1).1
    omega
  · have h1 := h.qlow k hq
    have h2 := (h.plow _ h.pb).1
    omega
  · rcases hp with hp | hp
    · exact ⟨(h.plow k hp).1, Nat.lt_of_lt_of_le (h.plow k hp).2 hs⟩
    · have := hlt5 k hp
      exact ⟨this.1, Nat.lt_of_lt_of_le this.2 hK.size⟩
  · rcases hp with hp | hp
    · exact h.pn k hp hn
    · exact (ne' k hp).2.2.2.2 hn
  · rw [heap_setCell_same w5 L.b 4 _ _ _ hst5]; rfl
  · obtain ⟨q1, A1, m1, c1, q2, q3⟩ := h.refs j hj
    have e := hb _ (h.plow _ h.pr).2 vr (fun e => h.d1.1 e.symm)
    refine ⟨(World.frozen?_of_block e).trans q1, A1, m1, c1, (World.cell?_of_block e).trans q2, fun hf => ?_⟩
    obtain ⟨z1, z2, z3⟩ := q3 hf
    exact ⟨z1, reads_same z2 hs fun hne a e => hb _ (h.nlow _ (z3 hne a e)).2 (vn _ (z3 hne a e)).1 (vn _ (z3 hne a e)).2, z3⟩
  · have e := hb _ (h.plow _ h.pf).2 vf (fun e => h.d1.2.2.1 e.symm)
    exact ⟨(World.cell?_of_block e).trans (h.firsts j hj).1, (World.frozen?_of_block e).trans (h.firsts j hj).2⟩
theorem WS.setA (h : WS w B P N Q mo G L v σ) {w5 : World} (i s : Nat) (hi : i < G.length) (hk : Kept L.ga w w5) (hA : SAt w5 L.ga (i * 16) s) (hO : ∀ j, j < G.length → j ≠ i → SAt w5 L.ga (j * 16) (σ.al j)) : WS w5 B P N Q mo G L v { σ with al := upd σ.al i s } := by
  have hs := hk.size
  have hb : ∀ k, k < w.heap.size → k ≠ L.ga → w5.heap[k]? = w.heap[k]? := hk.block
  have hna : ∀ k, N k → k ≠ L.ga := fun k hn e => h.pn _ h.pa (e ▸ hn)
  refine { h with base := Nat.le_trans h.base hs, mp := h.mp.keep hs fun k hq hlt => hb k hlt ?_, plow := fun k hp => ⟨(h.plow k hp).1, Nat.lt_of_lt_of_le (h.plow k hp).2 hs⟩, nlow := fun k hp => ⟨(h.nlow k hp).1, Nat.lt_of_lt_of_le (h.nlow k hp).2 hs⟩, st := (hb _ (h.plow _ h.pb).2 h.d1.2.1).trans h.st, cells := reads_same h.cells hs fun hne a e => hb _ (h.nlow _ (h.cn (by rintro rfl; exact hne rfl) a e)).2 (hna _ (h.cn (by rintro rfl; exact hne rfl) a e)), refs := fun j hj => ?_, alls := fun j hj => ?_, opn := owns_same h.opn fun k e => hb k (h.plow k (h.po k e).1).2 (h.po k e).2.2.2.1, firsts := fun j hj => ?_ }
  · have h1 := h.qlow k hq
    have h2 := (h.plow _ h.pa).1
    omega
  · obtain ⟨q1, A1, m1, c1, q2, q3⟩ := h.refs j hj
    have e := hb _ (h.plow _ h.pr).2 h.d1.2.2.2.1
    refine ⟨(World.frozen?_of_block e).trans q1, A1, m1, c1, (World.cell?_of_block e).trans q2, fun hf => ?_⟩
    obtain ⟨z1, z2, z3⟩ := q3 hf
    exact ⟨z1, reads_same z2 hs fun hne a e => hb _ (h.nlow _ (z3 hne a e)).2 (hna _ (z3 hne a e)), z3⟩
  · show SAt w5 L.ga (j * 16) (upd σ.al i s j)
    by_cases e : j = i
    · subst e; rw [upd_self]; exact hA
    · rw [upd_ne _ _ e]; exact hO j hj e
  · have e := hb _ (h.plow _ h.pf).2 (fun e => h.d1.2.2.2.2.2 e.symm)
    exact ⟨(World.cell?_of_block e).trans (h.firsts j hj).1, (World.frozen?_of_block e).trans (h.firsts j hj).2⟩
theorem owns_take {w : World} {B g n c : Nat} {l : List Nat} (h : Owns fN 1 3 w B (.slice (some ⟨g, 0, none⟩) n c) l) (k : Nat) (hk : k ≤ l.length) : Owns fN 1 3 w B (.slice (some ⟨g, 0, none⟩) k c) (l.take k) := by
  obtain ⟨h1, ⟨h2, -⟩ | ⟨g', cap, cur, e, hb, hg, q1, q2, q3, q4⟩⟩ := h
  · cases h2
  · injection e with e1 e2 e3
    injection e1 with e1
    injection e1 with e1
    subst e1 e3
    have hf : ∀ l : List Nat, l.flatMap fN = l.map (fun (n : Nat) => Value.int .i64 (n : Int)) := fun l => by
      induction l with
      | nil => rfl
      | cons x l ih => rw [List.flatMap_cons, ih]; rfl
    have hl : (l.take k).length = k := by rw [List.length_take]; omega
    unfold Owns
    rw [hl]
    refine ⟨by rw [hf, List.length_map, hl, Nat.mul_one], Or.inr ⟨g, c, cur, rfl, hb, hg, by omega, q2, q3, ?_⟩⟩
    rw [hf] at q4 ⊢
    rw [Nat.mul_one] at q4 ⊢
    rw [List.map_take, ← q4, List.take_take, Nat.min_eq_left hk]
end
end Go.Proofs.YtakamedgdiffbaaGreatDoor.GraphC
namespace Go.Proofs.YtakamedgdiffbaaGreatDoor.GraphC
set_option linter.unusedVariables false
open Go.RowKit Go.Proofs.YtakamedgdiffbaaGreatDoor.NumC Go.Proofs.YtakamedgdiffbaaGreatDoor.RowsC
open Go.Proofs.YtakamedgdiffbaaGreatDoor.RefsC (Rc RAt hitsL RBox Srt nth_some aheadB ahead_iff)
open Go.Proofs.YtakamedgdiffbaaGreatDoor.AddrC (cellB fineB FineP Cell hasB beforeB)
open Go.Proofs.YtakamedgdiffbaaGreatDoor.TreeC (Kept)
set_option maxHeartbeats 1000000 in
set_option maxRecDepth 100000 in
theorem csearchG (g n : Nat) (lb : Array Value) (p : Nat → Bool) (w : World) (eg : ∀ args w, (callFunc g args).run Tryz.prog w = .ok (.enter g args) w) (hn : n ≤ 1000000)
    (hp : ∀ (W : World) (i : Nat), Below w.heap.size w W → i < n → Calls Tryz.prog g (#[.int .i64 (i : Nat)] ++ lb) W fun e w' => e = .returned (.bool (p i)) ∧ Below W.heap.size W w')
    (mono : ∀ a b, a ≤ b → b < n → p a = true → p b = true) :
    Calls Tryz.prog 102 #[.int .i64 (n : Nat), .func (.func g) #[] lb] w fun e w' => ∃ k : Nat, e = .returned (.int .i64 k) ∧ k ≤ n ∧ (∀ i, i < k → p i = false) ∧ (∀ i, k ≤ i → i < n → p i = true) ∧ Below w.heap.size w w' := by
  have HP := Lib.hid hp
  have HM := Lib.hid mono
  clear hp mono
  go_enter Tryz.func102, Tryz.ntmps102
  go_wp2_with fail
  go_loopw [5, 6] (fun lv hv wr => ∃ lo hi : Nat, lo ≤ hi ∧ hi ≤ n ∧ lv = .int .i64 lo ∧ hv = .int .i64 hi ∧ Hid (Below w.heap.size w wr ∧ (∀ i, i < lo → p i = false) ∧ (∀ i, hi ≤ i → i < n → p i = true))) (fun lv hv _ => (intOf hv).toNat - (intOf lv).toNat)
  case atStart => exact ⟨0, n, Nat.zero_le _, Nat.le_refl _, rfl, rfl, Lib.hid ⟨Below.refl _ _, fun i hi => absurd hi (Nat.not_lt_zero _), fun i h1 h2 => absurd h2 (by omega)⟩⟩
  case round =>
    obtain ⟨lo, hi, h1, h2, rfl, rfl, HR⟩ := hrel
    by_cases hlt : lo < hi
    · have hd : (lo : Int) < (hi : Int) := by omega
      have hcall := HP.out wr ((lo + hi) / 2) HR.out.1 (by omega)
      rw [show (((lo + hi) / 2 : Nat) : Int) = ((lo : Int) + (hi : Int)) / 2 by omega] at hcall
      cases hpm : p ((lo + hi) / 2) <;> rw [hpm] at hcall
      · have HPM := Lib.hid hpm
        clear hpm
        go_wp2_with fail
        refine hcall.mono ?_; rintro e w5 ⟨rfl, hb5⟩
        have HB := Lib.hid (HR.out.1.trans (hb5.mono HR.out.1.size))
        clear hb5
        go_wp2_with fail
        go_roundw
        case rel =>
          refine ⟨(lo + hi) / 2 + 1, hi, by omega, h2, by rw [show ((((lo + hi) / 2 + 1 : Nat)) : Int) = ((lo : Int) + (hi : Int)) / 2 + 1 by omega], rfl, Lib.hid ⟨HB.out, fun i hi2 => ?_, HR.out.2.2⟩⟩
          cases hpi : p i
          · rfl
          · have := HM.out i ((lo + hi) / 2) (by omega) (by omega) hpi
            rw [HPM.out] at this; cases this
        case measure => simp [intOf]; omega
      · have HPM := Lib.hid hpm
        clear hpm
        go_wp2_with fail
        refine hcall.mono ?_; rintro e w5 ⟨rfl, hb5⟩
        have HB := Lib.hid (HR.out.1.trans (hb5.mono HR.out.1.size))
        clear hb5
        go_wp2_with fail
        go_roundw
        case rel =>
          refine ⟨lo, (lo + hi) / 2, by omega, by omega, rfl, by rw [show (((lo + hi) / 2 : Nat) : Int) = ((lo : Int) + (hi : Int)) / 2 by omega], Lib.hid ⟨HB.out, HR.out.2.1, fun i hi1 hi2 => HM.out ((lo + hi) / 2) i hi1 hi2 HPM.out⟩⟩
        case measure => simp [intOf]; omega
    · have hd : ¬ (lo : Int) < (hi : Int) := by omega
      obtain rfl : hi = lo := by omega
      go_wp2_with fail
      go_ret
      exact ⟨hi, rfl, h2, HR.out.2.1, HR.out.2.2, HR.out.1⟩
structure CB (w : World) (b : Nat) (C : List Pt) (A : Option Addr) (c : Nat) : Prop where
  f1 : w.cell? ⟨b, 1, none⟩ = some (.slice A C.length c)
  row : Reads fP 2 w w.heap.size C A
theorem CB.under {w w' : World} {b : Nat} {C : List Pt} {A : Option Addr} {c : Nat} (h : CB w b C A c) (hb : Below w.heap.size w w') : CB w' b C A c :=
  ⟨(hb.cell (p := ⟨b, 1, none⟩) (World.block_lt_of_cell? w _ h.f1)).trans h.f1, (h.row.below hb).mono hb.size⟩
def notP (C : List Pt) (a : Pt) (i : Nat) : Bool := match C[i]? with | some x => !bfP x a | none => false
set_option maxHeartbeats 1000000 in
set_option maxRecDepth 100000 in
theorem cplace1 (b b1 b2 : Nat) (C : List Pt) (A : Option Addr) (c : Nat) (a : Pt) (i : Nat) (w : World) (hi : i < C.length) (hl : C.length ≤ 1000000) (hC : CB w b C A c) (h1 : w.cell? ⟨b1, 0, none⟩ = some (.pointer (some ⟨b, 0, none⟩))) (h2 : w.cell? ⟨b2, 0, none⟩ = some (.int .i64 a.r)) (h3 : w.cell? ⟨b2, 1, none⟩ = some (.int .i64 a.c)) :
    Calls Tryz.prog 103 #[.int .i64 (i : Nat), .pointer (some ⟨b1, 0, none⟩), .pointer (some ⟨b2, 0, none⟩)] w fun e w' => e = .returned (.bool (notP C a i)) ∧ Below w.heap.size w w' := by
  obtain ⟨x, hx⟩ := RowsC.at_some C i hi
  have HN : Hid (notP C a i = !beforeB x.r x.c a.r a.c) := Lib.hid (by unfold notP; rw [hx]; rfl)
  have f1 := hC.f1
  obtain ⟨g0, o, rfl, hg0, c0, c1⟩ := Reads.pt hC.row i x hx
  have hi9 : (i : Int) < (C.length : Int) := by omega
  have hcall := fun W => AddrC.before x.r x.c a.r a.c W
  generalize beforeB x.r x.c a.r a.c = v at *
  clear hC hx
  go_enter Tryz.func103, Tryz.ntmps103
  go_wp2_with fail
  refine region_tail 8 (by kernel_rfl) (by kernel_rfl) ?_
  simp only [List.take_succ_cons, List.take_zero, List.drop_succ_cons, List.drop_zero]
  change w.drew.cell? _ = _ at h1
  change w.drew.cell? _ = _ at h2
  change w.drew.cell? _ = _ at h3
  change w.drew.cell? _ = _ at f1
  change w.drew.cell? _ = _ at c0
  change w.drew.cell? _ = _ at c1
  have HB : Hid (Below w.heap.size w w.drew) := Lib.hid (below_drewN' (Below.refl _ w) 1)
  generalize w.drew = V at *
  iterate 8 still_step
  refine wpStill_nil ?_
  go_wp2_with fail
  refine (hcall V).mono ?_; rintro e w5 ⟨rfl, hb5⟩
  have HB5 := Lib.hid (HB.out.trans (hb5.mono HB.out.size))
  clear hb5 hcall
  cases v
  · go_wp2_with fail
    go_ret
    exact ⟨by rw [HN.out]; rfl, HB5.out⟩
  · go_wp2_with fail
    go_ret
    exact ⟨by rw [HN.out]; rfl, HB5.out⟩
set_option maxHeartbeats 1000000 in
set_option maxRecDepth 100000 in
theorem cplace (b : Nat) (C : List Pt) (A : Option Addr) (c : Nat) (a : Pt) (w : World) (hl : C.length ≤ 1000000) (hs : C.Pairwise fun x y => bfP x y = true) (hC : CB w b C A c) :
    Calls Tryz.prog 96 #[.pointer (some ⟨b, 0, none⟩), .agg #[.int .i64 a.r, .int .i64 a.c]] w fun e w' => ∃ k : Nat, e = .returned (.int .i64 (k : Int)) ∧ k ≤ C.length ∧ (∀ i x, i < k → C[i]? = some x → bfP x a = true) ∧ Below w.heap.size w w' := by
  have eg : ∀ args w, (callFunc 103 args).run Tryz.prog w = .ok (.enter 103 args) w := enters_of Tryz.func103 (by kernel_rfl) rfl
  have hB : Below w.heap.size w ((w.alloc (.cells #[.pointer (some ⟨b, 0, none⟩)] 70)).alloc (.cells #[.int .i64 a.r, .int .i64 a.c] 35)) := ((Below.refl _ w).alloc (Nat.le_refl _) _).alloc (by simp) _
  have e1 : ((w.alloc (.cells #[.pointer (some ⟨b, 0, none⟩)] 70)).alloc (.cells #[.int .i64 a.r, .int .i64 a.c] 35)).cell? ⟨w.heap.size, 0, none⟩ = some (.pointer (some ⟨b, 0, none⟩)) := by simp [go_sem]
  have e2 : ((w.alloc (.cells #[.pointer (some ⟨b, 0, none⟩)] 70)).alloc (.cells #[.int .i64 a.r, .int .i64 a.c] 35)).cell? ⟨w.heap.size + 1, 0, none⟩ = some (.int .i64 a.r) := by simp [go_sem]
  have e3 : ((w.alloc (.cells #[.pointer (some ⟨b, 0, none⟩)] 70)).alloc (.cells #[.int .i64 a.r, .int .i64 a.c] 35)).cell? ⟨w.heap.size + 1, 1, none⟩ = some (.int .i64 a.c) := by simp [go_sem]
  have hC2 := hC.under hB
  have hsz : ((w.alloc (.cells #[.pointer (some ⟨b, 0, none⟩)] 70)).alloc (.cells #[.int .i64 a.r, .int .i64 a.c] 35)).heap.size = w.heap.size + 2 := by simp
  have hcall := csearchG 103 C.length #[.pointer (some ⟨w.heap.size, 0, none⟩), .pointer (some ⟨w.heap.size + 1, 0, none⟩)] (notP C a) ((w.alloc (.cells #[.pointer (some ⟨b, 0, none⟩)] 70)).alloc (.cells #[.int .i64 a.r, .int .i64 a.c] 35)) eg hl
    (fun W i hb hi => cplace1 b w.heap.size (w.heap.size + 1) C A c a i W hi hl (hC2.under hb) ((hb.cell (p := ⟨w.heap.size, 0, none⟩) (by show w.heap.size < _; rw [hsz]; omega)).trans e1) ((hb.cell (p := ⟨w.heap.size + 1, 0, none⟩) (by show w.heap.size + 1 < _; rw [hsz]; omega)).trans e2) ((hb.cell (p := ⟨w.heap.size + 1, 1, none⟩) (by show w.heap.size + 1 < _; rw [hsz]; omega)).trans e3))
    (fun p q hpq hq hp => by
      unfold notP at hp ⊢
      obtain ⟨x, hx⟩ := RowsC.at_some C p (by omega)
      obtain ⟨y, hy⟩ := RowsC.at_some C q hq
      rw [hx] at hp
      rw [hy]
      by_cases e : p = q
      · subst e; rw [hx] at hy; cases hy; exact hp
      · have hxy : bfP x y = true := by
          obtain ⟨hp1, hx1⟩ := List.getElem?_eq_some_iff.1 hx
          obtain ⟨hq1, hy1⟩ := List.getElem?_eq_some_iff.1 hy
          have := List.pairwise_iff_getElem.1 hs p q hp1 hq1 (by omega)
          rwa [hx1, hy1] at this
        show (!bfP y a) = true
        cases h : bfP y a
        · rfl
        · have := goesP.tr _ _ _ hxy h
          change (!bfP x a) = true at hp
          rw [this] at hp; cases hp)
  have f1 := hC2.f1
  have HB := Lib.hid hB
  have HC2 := Lib.hid hC2
  clear hC hB hC2 e2 e3 eg hsz
  go_enter Tryz.func96, Tryz.ntmps96
  go_wp2_with fail
  refine hcall.mono ?_; rintro e w5 ⟨k, rfl, h1, h2, h3, hb5⟩
  have HF : Hid (∃ k' : Nat, Ending.returned (.int .i64 (k : Int)) = .returned (.int .i64 (k' : Int)) ∧ k' ≤ C.length ∧ (∀ i x, i < k' → C[i]? = some x → bfP x a = true) ∧ Below w.heap.size w w5) := Lib.hid ⟨k, rfl, h1, fun i x hi hx => by
    have := h2 i hi
    unfold notP at this
    rw [hx] at this
    simpa using this, HB.out.trans (hb5.mono HB.out.size)⟩
  clear hcall h1 h2 h3 hb5
  go_wp2_with fail
  go_ret
  exact HF.out
theorem _root_.Go.Proofs.YtakamedgdiffbaaGreatDoor.RefsC.RBox.block_of {w w' : World} {b : Nat} {x : Rc} (h : RBox w b x) (e : w'.heap[b]? = w.heap[b]?) : RBox w' b x := e.trans h
def hitC (C : List Pt) (E : List Rc) (j : Nat) : Bool := match C[j]? with | some y => hitP E y | none => false
def refsE (C : List Pt) (E : List Rc) : List Nat := (List.range C.length).filter (hitC C E)
theorem refs_cells {G : Gl} {i : Nat} {x : Pt × List Rc} (hx : G[i]? = some x) : refsE (cellsL G) x.2 = refsP G i := by
  unfold refsE refsP cellsL
  rw [List.length_map]
  refine List.filter_congr fun j hj => ?_
  unfold hitC
  rw [List.getElem?_map, hx]
  cases G[j]? <;> rfl
def lastR (l : List Rc) (n : Nat) : Nat := l.foldl (fun n x => max n x.c.toNat) n
theorem last_le (l : List Rc) : ∀ n, n ≤ lastR l n ∧ ∀ x, x ∈ l → x.c.toNat ≤ lastR l n := by
  induction l with
  | nil => intro n; exact ⟨Nat.le_refl _, fun x h => by cases h⟩
  | cons y l ih =>
    intro n
    obtain ⟨h1, h2⟩ := ih (max n y.c.toNat)
    refine ⟨Nat.le_trans (Nat.le_max_left _ _) h1, fun x hx => ?_⟩
    rcases List.mem_cons.1 hx with e | e
    · rw [e]; exact Nat.le_trans (Nat.le_max_right _ _) h1
    · exact h2 x e
theorem hit_last {E : List Rc} {p : Pt} (h : hitP E p = true) : p.r.toNat ≤ lastR E 0 := by
  unfold hitP hitsL at h
  obtain ⟨x, hx, h2⟩ := List.any_eq_true.1 h
  unfold hasB at h2
  obtain ⟨⟨⟨⟨k1, k2⟩, k3, k4⟩, ⟨⟨k5, k6⟩, k7, k8⟩, k9, k10⟩, k11, k12, k13, k14⟩ := of_decide_eq_true h2
  have := (last_le E 0).2 x hx
  omega
theorem hit_first {E : List Rc} {r : Rc} {p : Pt} (hs : Srt (r :: E)) (h : hitP (r :: E) p = true) : bfP p ⟨r.a, r.b⟩ = false := by
  unfold hitP hitsL at h
  obtain ⟨x, hx, h2⟩ := List.any_eq_true.1 h
  unfold hasB at h2
  obtain ⟨-, k11, k12, k13, k14⟩ := of_decide_eq_true h2
  have hrx : r = x ∨ aheadB r x = true := by
    rcases List.mem_cons.1 hx with e | e
    · exact Or.inl e.symm
    · exact Or.inr ((List.pairwise_cons.1 hs).1 x e)
  unfold bfP beforeB
  rw [decide_eq_false_iff_not]
  simp only
  rcases hrx with e | e
  · subst e; omega
  · rw [ahead_iff] at e; omega
set_option maxHeartbeats 2000000 in
set_option maxRecDepth 100000 in
theorem creferred (b : Nat) (C : List Pt) (A D : Option Addr) (c d : Nat) (E : List Rc) (w : World) (hl : C.length ≤ 1000) (hs : C.Pairwise fun x y => bfP x y = true) (hcell : ∀ p, p ∈ C → Cell p.r p.c) (hC : CB w b C A c) (hE : RAt w w.heap.size E D) (hne : E ≠ []) (hEl : E.length ≤ 1000) (hf : ∀ r, r ∈ E → fineX r = true) (hsE : Srt E) :
    Calls Tryz.prog 74 #[.pointer (some ⟨b, 0, none⟩), .slice D E.length d] w fun e w' => ∃ v, e = .returned v ∧ Owns fN 1 3 w' w.heap.size v (refsE C E) ∧ Below w.heap.size w w' := by
  have HC := Lib.hid hC
  have HE := Lib.hid hE
  have HF := Lib.hid hf
  have HS := Lib.hid hs
  have HSE := Lib.hid hsE
  have HCell := Lib.hid hcell
  clear hC hE hf hs hsE hcell
  go_enter Tryz.func74, Tryz.ntmps74
  go_wp2_with fail
  have hz := MAt.zero w
  have K0 : Below w.heap.size w (w.alloc (.cells Tryz.zeroCells65 65)) := (Below.refl _ w).alloc (Nat.le_refl _) _
  generalize (w.alloc (.cells Tryz.zeroCells65 65)) = W at *
  generalize hg : w.heap.size = g at *
  have HK := Lib.hid K0
  have HZ := Lib.hid hz
  clear K0 hz
  go_loopw [6, 12] (fun lv iv wr => ∃ k : Nat, k ≤ E.length ∧ lv = .int .i64 (lastR (E.take k) 0 : Nat) ∧ iv = .int .i64 k ∧ Hid (Below g w wr ∧ ∃ m, MAt wr g m ∧ Marks m fun p => hitP (E.take k) p = true)) (fun _ iv _ => E.length - (intOf iv).toNat)
  case atStart => exact ⟨0, Nat.zero_le _, rfl, rfl, Lib.hid ⟨HK.out, _, HZ.out, marks_zero.congr fun a => by simp [hitP, hitsL]⟩⟩
  case round =>
    obtain ⟨k, hk, rfl, rfl, HR2⟩ := hrel
    obtain ⟨hb, m, hm, hs⟩ := HR2.out
    clear HZ HK
    by_cases hlt : k < E.length
    · have hd1 : (k : Int) < (E.length : Int) := by omega
      obtain ⟨x, hx⟩ := RowsC.at_some E k hlt
      obtain ⟨g0, o, rfl, hg0, c0, c1, c2, c3⟩ := (HE.out.below hb).nth k x hx
      have hfx := HF.out x (List.mem_of_getElem? hx)
      obtain ⟨xa, xb, xc, xd, rfl, k1, k2, k3, k4, k5, k6⟩ := fine_at hfx
      have HX := Lib.hid (show (∀ p, hitP (E.take (k + 1)) p = true ↔ hasB xa xb xc xd p.r p.c = true ∨ hitP (E.take k) p = true) from fun p => by
        unfold hitP hitsL
        rw [List.take_add_one, hx, List.any_append, Bool.or_eq_true]
        simp only [Option.toList_some, List.any_cons, List.any_nil, Bool.or_false]
        exact Or.comm)
      have HL := Lib.hid (show lastR (E.take (k + 1)) 0 = max (lastR (E.take k) 0) xc from by
        unfold lastR
        rw [List.take_add_one, hx, List.foldl_append]; rfl)
      have hcall := fun V (hV : MAt V g m) => cmcover g m ⟨xa, xb, xc, xd⟩ V hfx hV
      have hlg := hm.lt
      have ng : g0 ≠ g := by omega
      have n2 : wr.heap.size ≠ g := by omega
      have n3 : g ≠ wr.heap.size := by omega
      have HB := Lib.hid hb
      have HM := Lib.hid hm
      have HSm := Lib.hid hs
      have HFX := Lib.hid hfx
      generalize lastR (E.take k) 0 = la at *
      clear hb hm hs hx hfx
      simp only at c0 c1 c2 c3
      go_wp2_with fail
      have hbx := RBox.new wr ⟨xa, xb, xc, xd⟩
      have B1 : Below g wr (wr.alloc (.cells #[.int .i64 xa, .int .i64 xb, .int .i64 xc, .int .i64 xd] 51)) := (Below.refl _ wr).alloc (by omega) _
      have hm1 := HM.out.below ((Below.refl wr.heap.size wr).alloc (Nat.le_refl _) (.cells #[.int .i64 xa, .int .i64 xb, .int .i64 xc, .int .i64 xd] 51))
      simp only at hbx
      generalize (wr.alloc (.cells #[.int .i64 xa, .int .i64 xb, .int .i64 xc, .int .i64 xd] 51)) = V at *
      generalize hbn : wr.heap.size = bx at *
      have hbV := hbx.lt
      refine (hcall V hm1).mono ?_; rintro e V2 ⟨rfl, hk2, hm2⟩
      have hbx2 := hbx.block_of (hk2.block bx hbV (by omega))
      obtain ⟨d0, d1, d2, d3⟩ := hbx2.cells
      simp only at d0 d1 d2 d3
      have hB2 := HB.out.trans B1
      have HB2 : Hid (Below g w V2) := Lib.hid ⟨hk2.os.trans hB2.os, hk2.tape.trans hB2.tape, hk2.output.trans hB2.output, Nat.le_trans hB2.size hk2.size, fun i hi => (hk2.block i (by have := hB2.size; omega) (by omega)).trans (hB2.block i hi)⟩
      have HM2 := Lib.hid hm2
      clear hbx hbx2 hm1 hk2 hm2 B1 hB2 hcall c0 c1 c2 c3 d0 d1 d3
      go_wp2_with fail
      go_roundw
      case rel => exact ⟨k + 1, by omega, by rw [HL.out]; first | rfl | (congr 1; omega), by go_num, Lib.hid ⟨HB2.out, _, HM2.out, (HSm.out.cover HFX.out).congr fun a => (HX.out a).symm⟩⟩
      case measure => simp [intOf]; omega
    · have hd1 : ¬ (k : Int) < (E.length : Int) := by omega
      obtain rfl : k = E.length := by omega
      rw [List.take_length] at hs
      obtain ⟨r0, E', hE0⟩ : ∃ r0 E', E = r0 :: E' := by
        cases E with
        | nil => exact absurd rfl hne
        | cons r0 E' => exact ⟨r0, E', rfl⟩
      have hx0 : E[0]? = some r0 := by rw [hE0]; rfl
      obtain ⟨g0, o, rfl, hg0, c0, c1, c2, c3⟩ := (HE.out.below hb).nth 0 r0 hx0
      rw [Nat.zero_mul, Nat.add_zero] at c0 c1
      have h00 : (0 : Int) < (E.length : Int) := by rw [hE0]; simp
      have HB := Lib.hid hb
      have HM := Lib.hid hm
      have HSm := Lib.hid hs
      have hcall := cplace b C A c ⟨r0.a, r0.b⟩ wr (by omega) HS.out ((HC.out.under (by rw [hg]; exact hb)))
      have HFst := Lib.hid (show ∀ p, hitP E p = true → bfP p ⟨r0.a, r0.b⟩ = false from fun p h => by
        rw [hE0] at h
        exact hit_first (by rw [← hE0]; exact HSE.out) h)
      have HLst := Lib.hid (show ∀ p, hitP E p = true → p.r.toNat ≤ lastR (E.take E.length) 0 from fun p h => by rw [List.take_length]; exact hit_last h)
      generalize lastR (E.take E.length) 0 = la at *
      clear hb hm hs hx0 c2 c3 hE0
      go_wp2_with fail
      refine hcall.mono ?_; rintro e w5 ⟨k, rfl, hkl, hkb, hb5⟩
      have HB5 : Hid (Below g w w5) := Lib.hid (HB.out.trans (hb5.mono (by have := HB.out.size; omega)))
      have hm5 := HM.out.below hb5
      have HM5 := Lib.hid hm5
      have hlg := hm5.lt
      have HNo := Lib.hid (show (List.range k).filter (hitC C E) = [] from by
        rw [List.filter_eq_nil_iff]
        intro i hi
        have hi := List.mem_range.1 hi
        obtain ⟨x, hx⟩ := RowsC.at_some C i (by omega)
        unfold hitC
        rw [hx]
        show ¬ hitP E x = true
        intro h
        have h1 := HFst.out x h
        rw [hkb i x hi hx] at h1; cases h1)
      clear hcall hb5 hm5 hkb c0 c1 HM
      go_wp2_with fail
      generalize w5 = w6 at *
      go_loopw [4, 9] (fun lv iv wz => ∃ j : Nat, k ≤ j ∧ j ≤ C.length ∧ iv = .int .i64 j ∧ Hid (Below w6.heap.size w6 wz ∧ Owns fN 1 3 wz w6.heap.size lv ((List.range j).filter (hitC C E)))) (fun _ iv _ => C.length - (intOf iv).toNat)
      case atStart => exact ⟨k, Nat.le_refl _, hkl, rfl, Lib.hid ⟨Below.refl _ _, by rw [HNo.out]; exact Owns.nil _ _⟩⟩
      case round =>
        obtain ⟨j, hkj, hjl, rfl, HJ⟩ := hrel
        obtain ⟨hbz, ho⟩ := HJ.out
        have hCB := (HC.out.under (by rw [hg]; exact HB5.out)).under hbz
        have f1 := hCB.f1
        have hlen2 : ((List.range j).filter (hitC C E)).length + 1 ≤ 100000000 := by
          have := List.length_filter_le (hitC C E) (List.range j)
          simp at this; omega
        have HFin := Lib.hid (show (∀ i x, j ≤ i → C[i]? = some x → hitP E x = false) → refsE C E = (List.range j).filter (hitC C E) from fun h => by
          unfold refsE
          have e : C.length = j + (C.length - j) := by omega
          rw [e, List.range_add, List.filter_append]
          have : ((List.range (C.length - j)).map (fun x => j + x)).filter (hitC C E) = [] := by
            rw [List.filter_eq_nil_iff]
            intro i hi
            obtain ⟨q, hq, rfl⟩ := List.mem_map.1 hi
            have hq := List.mem_range.1 hq
            obtain ⟨x, hx⟩ := RowsC.at_some C (j + q) (by omega)
            unfold hitC
            rw [hx]
            show ¬ hitP E x = true
            rw [h (j + q) x (by omega) hx]; decide
          rw [this, List.append_nil])
        have hEnd : ∀ lv, Owns fN 1 3 wr w6.heap.size lv ((List.range j).filter (hitC C E)) → (∀ i x, j ≤ i → C[i]? = some x → hitP E x = false) → ∃ v, Ending.returned lv = .returned v ∧ Owns fN 1 3 wr g v (refsE C E) ∧ Below g w wr := fun lv h1 h2 => ⟨lv, rfl, by rw [HFin.out h2]; exact h1.mono (by have := HB5.out.size; omega), HB5.out.trans (hbz.mono (by have := HB5.out.size; omega))⟩
        have HEnd := Lib.hid hEnd
        clear hEnd HFin
        by_cases hjn : j < C.length
        · have hd2 : (j : Int) < (C.length : Int) := by omega
          obtain ⟨x, hx⟩ := RowsC.at_some C j hjn
          obtain ⟨gc, oc, rfl, hgc, x0, x1⟩ := Reads.pt hCB.row j x hx
          have hcx := HCell.out x (List.mem_of_getElem? hx)
          have HX := Lib.hid hx
          by_cases hrow : x.r ≤ (la : Int)
          · have hm6 := HM5.out.below hbz
            have hhas := cmhas g m x wr hcx hm6
            have HStep := Lib.hid (show (List.range (j + 1)).filter (hitC C E) = (List.range j).filter (hitC C E) ++ (if hasM m x = true then [j] else []) from by
              rw [List.range_succ, List.filter_append]
              congr 1
              have : hitC C E j = hasM m x := by
                unfold hitC
                rw [hx]
                show hitP E x = hasM m x
                cases h : hasM m x
                · cases h2 : hitP E x
                  · rfl
                  · rw [(HSm.out.has hcx).2 h2] at h; cases h
                · exact (HSm.out.has hcx).1 h
              simp [List.filter, this]
              cases hasM m x <;> rfl)
            have HO := Lib.hid ho
            have HBz := Lib.hid hbz
            obtain ⟨oA, oc2, rfl, -⟩ := ho.form
            generalize hasM m x = hv at *
            clear ho hbz hx hm6 hCB
            go_wp2_with fail
            refine hhas.mono ?_; rintro e w7 ⟨rfl, hb7⟩
            have HB7 := Lib.hid (HBz.out.trans (hb7.mono HBz.out.size))
            have HO7 := Lib.hid (HO.out.below hb7)
            have hsz := HB7.out.size
            clear hhas hb7 x0 x1 f1
            cases hv
            · simp only [Bool.false_eq_true, if_false, List.append_nil] at HStep
              go_wp2_with fail
              go_roundw
              case rel => exact ⟨j + 1, by omega, by omega, by go_num, Lib.hid ⟨HB7.out, by rw [HStep.out]; exact HO7.out⟩⟩
              case measure => simp [intOf]; omega
            · simp only [if_true] at HStep
              go_wp2_with (at_builtin
                           refine wpList_append_owns kindN _ rfl (.tmp 59) (.tmp 61) rfl (m := [j]) (B := w6.heap.size) rfl rfl rfl (HO7.out.below ((Below.refl _ _).alloc (Nat.le_refl _) _)) (Boxed.new (f := fN) w7 j).reads hlen2 (by rw [World.size_alloc]; omega) ?_
                           intro v' w' ho' hg' hat'
                           have HD := Lib.hid (show Below w6.heap.size w6 w' ∧ Owns fN 1 3 w' w6.heap.size v' ((List.range (j + 1)).filter (hitC C E)) from
                             ⟨below_grown (HB7.out.alloc hsz _) (by rw [World.size_alloc]; omega) hg' (fun i hi => (HO7.out.lt i hi).1), by rw [HStep.out]; exact ho'⟩)
                           clear ho' hg' hat')
              go_roundw
              case rel => exact ⟨j + 1, by omega, by omega, by go_num, HD⟩
              case measure => simp [intOf]; omega
          · have HF := Lib.hid (HEnd.out _ ho fun i y hij hy => by
              cases h : hitP E y
              · rfl
              · have h1 := HLst.out y h
                have h2 : x.r ≤ y.r := by
                  by_cases e : i = j
                  · subst e; rw [hx] at hy; cases hy; omega
                  · obtain ⟨q1, q2⟩ := List.getElem?_eq_some_iff.1 hx
                    obtain ⟨q3, q4⟩ := List.getElem?_eq_some_iff.1 hy
                    have := List.pairwise_iff_getElem.1 HS.out j i q1 q3 (by omega)
                    rw [q2, q4] at this
                    unfold bfP AddrC.beforeB at this
                    have := of_decide_eq_true this
                    omega
                omega)
            obtain ⟨oA, oc2, rfl, -⟩ := ho.form
            clear ho hbz hx hCB
            go_wp2_with fail
            go_ret
            exact HF.out
        · have hd2 : ¬ (j : Int) < (C.length : Int) := by omega
          have HF := Lib.hid (HEnd.out _ ho fun i y hij hy => by
            have := (List.getElem?_eq_some_iff.1 hy).1; omega)
          obtain ⟨oA, oc2, rfl, -⟩ := ho.form
          clear ho hbz hCB
          go_wp2_with fail
          go_ret
          exact HF.out
end Go.Proofs.YtakamedgdiffbaaGreatDoor.GraphC
namespace Go.Proofs.YtakamedgdiffbaaGreatDoor.GraphC
set_option linter.unusedVariables false
open Go.RowKit Go.Proofs.YtakamedgdiffbaaGreatDoor.NumC Go.Proofs.YtakamedgdiffbaaGreatDoor.RowsC
open Go.Proofs.YtakamedgdiffbaaGreatDoor.RefsC (Rc RAt hitsL RBox Srt)
open Go.Proofs.YtakamedgdiffbaaGreatDoor.AddrC (cellB fineB FineP Cell hasB beforeB)
open Go.Proofs.YtakamedgdiffbaaGreatDoor.TreeC (Kept)
section
variable {w w' : World} {B : Nat} {P N Q : Nat → Prop} {mo : Option Nat} {G : Gl} {L : WL} {v : Value} {σ : Wk}
theorem WS.soft (h : WS w B P N Q mo G L v σ) (o : Nat) : w.frozen? ⟨L.b, o, none⟩ = false := by
  have h1 := h.st
  unfold World.frozen?; simp [h1]
theorem WS.cb (h : WS w B P N Q mo G L v σ) : CB w L.b (cellsL G) L.cA L.cc := ⟨by rw [h.lens]; exact h.cell.2.1, h.cells⟩
theorem WS.look (h : WS w B P N Q mo G L v σ) (hs : SrtG bfP G) {x : Pt × List Rc} (hx : x ∈ G) : ∃ A c, (Instr.lookup TM (.map mo) (.agg #[.int .i64 x.1.r, .int .i64 x.1.c]) false).run Tryz.prog w = .ok (.slice A x.2.length c) w ∧ RAt w w.heap.size x.2 A := by
  obtain ⟨⟨es, hes, heg⟩, -, -⟩ := h.mp
  obtain ⟨e, he, hk⟩ := heg.eout x hx
  rcases hes with ⟨rfl, rfl⟩ | ⟨mb, clock, rfl, hm⟩
  · simp at he
  · obtain ⟨y, hy, hky, A, c, hv, hr, -⟩ := heg.ein e he
    have hxy := SrtG.only goesP hs hy hx (pt_inj (hky.symm.trans hk))
    subst hxy
    refine ⟨A, c, ?_, hr⟩
    rcases hm.look false y.1 with ⟨-, h2⟩ | ⟨e2, h1, h2, h3⟩
    · exact absurd hk (h2 e he)
    · have := hm.only h1 he (h2.trans hk.symm)
      subst this
      rw [hv] at h3
      exact h3
end
theorem WS.push {w w' : World} {B : Nat} {P N Q : Nat → Prop} {mo : Option Nat} {G : Gl} {L : WL} {v v' : Value} {σ : Wk} (h : WS w B P N Q mo G L v σ) (i : Nat) (ho : Owns fN 1 3 w' B v' (σ.op ++ [i])) (hg : (w.alloc (.cells (fN i).toArray 3)).grownBy w' v.ownBlock)
    (hat : v'.ownBlock = v.ownBlock ∨ v'.ownBlock = some (w.alloc (.cells (fN i).toArray 3)).heap.size) :
    w'.cell? ⟨L.b, 4, none⟩ = some v ∧ w'.frozen? ⟨L.b, 4, none⟩ = false ∧ But P w w' ∧ Grew w w' P (fun k => P k ∨ v'.ownBlock = some k) ∧
      WS (w'.setCell ⟨L.b, 4, none⟩ v') B (fun k => P k ∨ v'.ownBlock = some k) N Q mo G L v' { σ with op := σ.op ++ [i] } ∧ But (fun k => k = L.b) w' (w'.setCell ⟨L.b, 4, none⟩ v') ∧
      ∀ k, k < w.heap.size → v.ownBlock ≠ some k → k ≠ L.b → (w'.setCell ⟨L.b, 4, none⟩ v').heap[k]? = w.heap[k]? := by
  have hBb := h.plow _ h.pb
  have hsz' : w.heap.size + 1 ≤ w'.heap.size := by have := hg.size; rw [World.size_alloc] at this; omega
  have hb6 : ∀ k, k < w.heap.size → v.ownBlock ≠ some k → w'.heap[k]? = w.heap[k]? := fun k hk hn => (hg.block k (by rw [World.size_alloc]; omega) (fun e => hn e.symm)).trans (((Below.refl w.heap.size w).alloc (Nat.le_refl _) _).block k hk)
  have hvv : v'.ownBlock = none ∨ v'.ownBlock = v.ownBlock ∨ ∃ k, v'.ownBlock = some k ∧ w.heap.size ≤ k := by
    rcases hat with e | e
    · exact Or.inr (Or.inl e)
    · exact Or.inr (Or.inr ⟨_, e, by rw [World.size_alloc]; omega⟩)
  obtain ⟨s1, s2⟩ := h.setV (v' := v') (op' := σ.op ++ [i]) (w5 := w') (by omega) hb6 ho hvv
  refine ⟨(World.cell?_of_block (hb6 L.b hBb.2 (fun e => (h.po _ e).2.1 rfl))).trans h.cell.2.2.2.2.1, (World.frozen?_of_block (hb6 L.b hBb.2 (fun e => (h.po _ e).2.1 rfl))).trans (h.soft 4), ⟨hg.os, hg.tape, hg.output, by omega, fun k hk hn => hb6 k hk (fun e => hn (h.po _ e).1)⟩, fun k hk => ?_, s1, s2, fun k h1 h2 h3 => (s2.block k (by omega) h3).trans (hb6 k h1 h2)⟩
  rcases hk with hk | hk
  · exact Or.inl hk
  · rcases hat with e | e
    · rw [e] at hk; exact Or.inl (h.po k hk).1
    · have h1 := (ho.lt k hk).2
      rw [e] at hk
      cases hk
      exact Or.inr ⟨by rw [World.size_alloc]; omega, h1⟩
def StepB (w : World) (b : Nat) : Prop := w.heap[b]? = some (.cells #[.int .i64 0, .int .i64 0, .int .i64 0] 97 (0, 0))
theorem StepB.lt {w : World} {b : Nat} (h : StepB w b) : b < w.heap.size := (Array.getElem?_eq_some_iff.1 h).1
theorem StepB.cells {w : World} {b : Nat} (h : StepB w b) : w.cell? ⟨b, 0, none⟩ = some (.int .i64 0) ∧ w.cell? ⟨b, 1, none⟩ = some (.int .i64 0) ∧ w.cell? ⟨b, 2, none⟩ = some (.int .i64 0) ∧ ∀ o, w.frozen? ⟨b, o, none⟩ = false := by
  unfold StepB at h
  refine ⟨by simp [World.cell?, h], by simp [World.cell?, h], by simp [World.cell?, h], fun o => by simp [World.frozen?, h]⟩
theorem StepB.of {w w' : World} {b : Nat} (h : StepB w b) (e : w'.heap[b]? = w.heap[b]?) : StepB w' b := e.trans h
def MeetPost (B : Nat) (P N Q : Nat → Prop) (mo : Option Nat) (G : Gl) (L : WL) (σ : Wk) (i : Nat) (w : World) (e : Ending) (w' : World) : Prop :=
  e = .returned (.agg #[.int .i64 (i : Int), .int .i64 ((σ.op.length + 1 : Nat) : Int), .int .i64 0]) ∧ But P w w' ∧ ∃ v' P' N', WS w' B P' N' Q mo G L v' (meetW σ i) ∧ Grew w w' P P' ∧ Grew w w' N N'
set_option maxHeartbeats 4000000 in
set_option maxRecDepth 100000 in
theorem cmeet {B : Nat} {P N Q : Nat → Prop} {mo : Option Nat} {G : Gl} {L : WL} {v : Value} {σ : Wk} (i : Nat) (w : World) (h : WS w B P N Q mo G L v σ) (hg : GoodG G) (hs : SrtG bfP G) (hbd : Bnd G) (hi : i < G.length) (hop : σ.op.length ≤ 1000) :
    Calls Tryz.prog 64 #[.pointer (some ⟨L.b, 0, none⟩), .int .i64 (i : Int)] w (MeetPost B P N Q mo G L σ i w) := by
  have hb0 : Below w.heap.size w (w.alloc (.cells #[.int .i64 0, .int .i64 0, .int .i64 0] 97)) := (Below.refl _ w).alloc (Nat.le_refl _) _
  have hbx : StepB (w.alloc (.cells #[.int .i64 0, .int .i64 0, .int .i64 0] 97)) w.heap.size := heap_alloc_new _ _
  have H0 := Lib.hid (h.under hb0)
  have HB0 := Lib.hid hb0
  have HX := Lib.hid hbx
  have HGood := Lib.hid hg
  have HS := Lib.hid hs
  have HBD := Lib.hid hbd
  have hn := hbd.1
  have HP := Lib.hid h.plow
  have HNL := Lib.hid h.nlow
  clear h hb0 hbx hg hs hbd
  go_enter Tryz.func64, Tryz.ntmps64
  go_wp2_with fail
  generalize (w.alloc (.cells #[.int .i64 0, .int .i64 0, .int .i64 0] 97)) = W at *
  generalize hbxn : w.heap.size = bx at *
  obtain ⟨x, hx⟩ := RowsC.at_some G i hi
  have hxm := List.mem_of_getElem? hx
  have hcx : (cellsL G)[i]? = some x.1 := by unfold cellsL; rw [List.getElem?_map, hx]; rfl
  have H1 := Lib.hid (H0.out.under (w' := W.drew) (below_drewN' (Below.refl _ W) 1))
  obtain ⟨b0, b1, b2, b3, b4, b5⟩ := H1.out.cell
  obtain ⟨gc, oc, hcA, hgc, x0, x1⟩ := Reads.pt H1.out.cells i x.1 hcx
  obtain ⟨A, c, hlk, hra⟩ := H1.out.look HS.out hxm
  have href := creferred L.b (cellsL G) L.cA A L.cc c x.2 W.drew (by rw [H1.out.lens]; exact hn) (by have := HS.out; unfold SrtG at this; unfold cellsL; rw [List.pairwise_map]; exact this) (fun p hp => by
    obtain ⟨y, hy, rfl⟩ := List.mem_map.1 hp; exact HGood.out.cell y hy) H1.out.cb hra (HGood.out.some_ x hxm) (HBD.out.2 x hxm) (HGood.out.fineE x hxm) (HGood.out.srt x hxm)
  rw [refs_cells hx] at href
  have HREF := Lib.hid href
  have hi9 : (i : Int) < (G.length : Int) := by omega
  have hgrb : L.gr ≠ L.b := fun e => H1.out.d1.1 e.symm
  have hGne : G ≠ [] := by rintro rfl; simp at hi
  have hNc : N gc := H1.out.cn hGne _ hcA
  have hgrc : L.gr ≠ gc := fun e => H1.out.pn _ H1.out.pr (e ▸ hNc)
  rw [hcA] at b1
  obtain ⟨fr0, A0, m0, cc0, r0, -⟩ := H1.out.refs i hi
  have HC0 := Lib.hid (And.intro b0 (And.intro b1 (And.intro b2 (And.intro x0 (And.intro x1 (And.intro fr0 r0))))))
  clear href hra hcx hxm b3 b4 b5 fr0 r0
  go_region_held3 (fun Z => Z.cell? ⟨L.b, 0, none⟩ = some (.map mo) ∧ Z.cell? ⟨L.b, 1, none⟩ = some (.slice (some ⟨gc, oc, none⟩) G.length L.cc) ∧ Z.cell? ⟨L.b, 2, none⟩ = some (.slice (some ⟨L.gr, 0, none⟩) G.length G.length) ∧ Z.cell? ⟨gc, oc + i * 2, none⟩ = some (.int .i64 x.1.r) ∧ Z.cell? ⟨gc, oc + i * 2 + 1, none⟩ = some (.int .i64 x.1.c)) (first | exact ⟨by assumption, by assumption, by assumption, by assumption, by assumption⟩ | (simp [go_sem, *]))
    (first
      | (go_at_call 74
         refine HREF.out.mono ?_
         rintro e w5 ⟨v5, rfl, ho5, hb5⟩
         obtain ⟨A5, c5, rfl, -⟩ := ho5.form
         have H5 := Lib.hid (H1.out.under hb5)
         have HO5 := Lib.hid ho5
         have HB5 := Lib.hid hb5
         have e0 : w5.cell? ⟨L.b, 0, none⟩ = some (.map mo) := (hb5.cell (p := ⟨L.b, 0, none⟩) (World.block_lt_of_cell? _ _ HC0.out.1)).trans HC0.out.1
         have e1 : w5.cell? ⟨L.b, 1, none⟩ = some (.slice (some ⟨gc, oc, none⟩) G.length L.cc) := (hb5.cell (p := ⟨L.b, 1, none⟩) (World.block_lt_of_cell? _ _ HC0.out.2.1)).trans HC0.out.2.1
         have e2 : w5.cell? ⟨L.b, 2, none⟩ = some (.slice (some ⟨L.gr, 0, none⟩) G.length G.length) := (hb5.cell (p := ⟨L.b, 2, none⟩) (World.block_lt_of_cell? _ _ HC0.out.2.2.1)).trans HC0.out.2.2.1
         have e3 : w5.cell? ⟨gc, oc + i * 2, none⟩ = some (.int .i64 x.1.r) := (hb5.cell (p := ⟨gc, _, none⟩) (World.block_lt_of_cell? _ _ HC0.out.2.2.2.1)).trans HC0.out.2.2.2.1
         have e4 : w5.cell? ⟨gc, oc + i * 2 + 1, none⟩ = some (.int .i64 x.1.c) := (hb5.cell (p := ⟨gc, _, none⟩) (World.block_lt_of_cell? _ _ HC0.out.2.2.2.2.1)).trans HC0.out.2.2.2.2.1
         have e5 : w5.frozen? ⟨L.gr, i, none⟩ = false := (hb5.frozen (p := ⟨L.gr, i, none⟩) (World.block_lt_of_cell? _ _ HC0.out.2.2.2.2.2.2)).trans HC0.out.2.2.2.2.2.1
         have e6 : w5.cell? ⟨L.gr, i, none⟩ = some (.slice A0 m0 cc0) := (hb5.cell (p := ⟨L.gr, i, none⟩) (World.block_lt_of_cell? _ _ HC0.out.2.2.2.2.2.2)).trans HC0.out.2.2.2.2.2.2
         clear ho5 hb5))
  have hf5 := HO5.out.reads kindN.row
  have hlt5 := HO5.out.lt
  have hdz : W.drew.heap.size = W.heap.size := rfl
  have hWs : bx ≤ W.heap.size := by have := HX.out.lt; omega
  have hPlow := HP.out
  have hB0 := H0.out.base
  have HPF := Lib.hid H0.out.pf
  have hBx : B ≤ bx := by have := hPlow _ H0.out.pb; omega
  obtain ⟨N', hN1, hN2, hN3⟩ : ∃ N' : Nat → Prop, (∀ k, N k → N' k) ∧ (∀ a, A5 = some a → N' a.block) ∧ (∀ k, N' k → N k ∨ (Value.slice A5 (refsP G i).length c5).ownBlock = some k) := ⟨fun k => N k ∨ (Value.slice A5 (refsP G i).length c5).ownBlock = some k, fun k => Or.inl, fun a e => Or.inr (by rw [e]; rfl), fun k => id⟩
  have HR := Lib.hid (H5.out.setR i hi A5 (refsP G i).length c5 N' rfl hf5.2 (fun _ => hN2) hN1 (fun k hk => by
    rcases hN3 k hk with hk | hk
    · have := H5.out.nlow k hk
      exact ⟨this.1, this.2, fun hp => H5.out.pn k hp hk⟩
    · have := hlt5 k hk
      exact ⟨by omega, this.2, fun hp => by have := hPlow k hp; omega⟩))
  have HNB := Lib.hid (show ¬ N' bx from fun hk => by
    rcases hN3 bx hk with hk | hk
    · have := HNL.out bx hk; omega
    · have := hlt5 bx hk; have := HX.out.lt; omega)
  have HN' : Hid (∀ w9 : World, w5.heap.size ≤ w9.heap.size → Grew w w9 N N') := Lib.hid (fun w9 h9 k hk => by
    rcases hN3 k hk with hk | hk
    · exact Or.inl hk
    · have := hlt5 k hk
      exact Or.inr ⟨by omega, by omega⟩)
  have HX5 := Lib.hid (HX.out.of (HB5.out.block bx HX.out.lt))
  have HX6 := Lib.hid (HX5.out.of (HR.out.2.1.block bx HX5.out.lt (fun e => by have := hPlow _ H0.out.pr; omega)))
  have HBut6 := Lib.hid (show But P w (w5.setCell ⟨L.gr, i, none⟩ (.slice A5 (refsP G i).length c5)) from
    (But.of (P := P) (by rw [hbxn]; exact HB0.out.trans ((below_drewN' (Below.refl _ W) 1 |>.trans HB5.out).mono hWs))).trans (But.kept HR.out.2.1) (fun k _ e => e ▸ H0.out.pr))
  have hs6 : w5.heap.size ≤ (w5.setCell ⟨L.gr, i, none⟩ (.slice A5 (refsP G i).length c5)).heap.size := HR.out.2.1.size
  generalize (w5.setCell ⟨L.gr, i, none⟩ (.slice A5 (refsP G i).length c5)) = w6 at *
  have h5s : bx ≤ w5.heap.size := by have := HB5.out.size; omega
  obtain ⟨oA, oc2, rfl, -⟩ := HR.out.1.opn.form
  have b4 := HR.out.1.cell.2.2.2.2.1
  have hB6 := HR.out.1.base
  clear e0 e1 e2 e3 e4 e5 e6 hlt5 hf5 H0 HB0 H1 HREF HC0 HB5 H5 HO5 HX HX5 hlk b0 b1 b2 x0 x1 hcA
  have hold := HR.out.1.opn
  go_wp2_with (at_builtin
               refine wpList_append_owns kindN _ rfl (.tmp 29) (.tmp 31) rfl (m := [i]) (B := B) rfl rfl rfl (hold.below ((Below.refl _ _).alloc (Nat.le_refl _) _)) (Boxed.new (f := fN) w6 i).reads (by simp; omega) (by rw [World.size_alloc]; omega) ?_
               intro v' w' ho' hg' hat'
               have HV := Lib.hid (HR.out.1.push i ho' hg' hat')
               have e4 := HV.out.1
               have e4s := HV.out.2.1
               obtain ⟨A8, c8, rfl, -⟩ := ho'.form
               have HX7 := Lib.hid (HX6.out.of (HV.out.2.2.1.block bx HX6.out.lt (fun e => by have := hPlow _ e; omega)))
               clear ho' hg' hat' b4)
  have HW := Lib.hid HV.out.2.2.2.2.1
  have HK8 := Lib.hid HV.out.2.2.2.2.2.1
  have HK6 := Lib.hid HV.out.2.2.2.2.2.2
  have HG8 := Lib.hid HV.out.2.2.2.1
  have HBut7 := Lib.hid (HBut6.out.trans HV.out.2.2.1 (fun k _ e => e))
  have hl8 : (σ.op ++ [i]).length = σ.op.length + 1 := by simp
  have hs8 : w6.heap.size ≤ w'.heap.size := HV.out.2.2.1.size
  have HGX := Lib.hid (show L.gf ≠ bx from fun e => by have := hPlow _ HPF.out; omega)
  clear HV
  rw [hl8] at HW HK8 HG8 HK6
  have HX8 := Lib.hid (HX7.out.of (HK8.out.block bx HX7.out.lt (fun e => by have := hPlow _ HR.out.1.pb; omega)))
  have HRS : Hid (∃ A m c, (w'.setCell ⟨L.b, 4, none⟩ (.slice A8 (σ.op.length + 1) c8)).cell? ⟨L.gr, i, none⟩ = some (.slice A m c) ∧ m = (refsP G i).length ∧ Reads fN 1 (w'.setCell ⟨L.b, 4, none⟩ (.slice A8 (σ.op.length + 1) c8)) (w'.setCell ⟨L.b, 4, none⟩ (.slice A8 (σ.op.length + 1) c8)).heap.size (refsP G i) A ∧ (refsP G i ≠ [] → ∀ a, A = some a → N' a.block)) := by
    obtain ⟨A1, m1, c1, q1, q2, q3, q4⟩ := HR.out.2.2
    have hpo := HR.out.1.po
    have hpn := HR.out.1.pn
    refine Lib.hid ⟨A1, m1, c1, (World.cell?_of_block (HK6.out L.gr (HR.out.1.plow _ HR.out.1.pr).2 (fun e => (hpo _ e).2.2.1 rfl) hgrb)).trans q1, q2, reads_same q3 (Nat.le_trans hs8 HK8.out.size) (fun hne a e => HK6.out _ (HR.out.1.nlow _ (q4 hne a e)).2 (fun e2 => hpn _ (hpo _ e2).1 (q4 hne a e)) (fun e2 => hpn _ HR.out.1.pb (e2 ▸ q4 hne a e))), q4⟩
  have HPB := Lib.hid (show ¬ (P bx ∨ (Value.slice A8 (σ.op.length + 1) c8).ownBlock = some bx) from fun hk => by
    rcases HG8.out bx hk with h | ⟨h1, h2⟩
    · have := hPlow bx h; omega
    · have := HX6.out.lt; omega)
  have HBut8 := Lib.hid (HBut7.out.trans HK8.out (fun k _ e => e ▸ HR.out.1.pb))
  have hs88 := HK8.out.size
  have HN8 := Lib.hid (fun (w9 : World) (h9 : (w'.setCell ⟨L.b, 4, none⟩ (.slice A8 (σ.op.length + 1) c8)).heap.size ≤ w9.heap.size) => HN'.out w9 (by omega))
  have HG9 : Hid (∀ w9 : World, (w'.setCell ⟨L.b, 4, none⟩ (.slice A8 (σ.op.length + 1) c8)).heap.size ≤ w9.heap.size → Grew w w9 P fun k => P k ∨ (Value.slice A8 (σ.op.length + 1) c8).ownBlock = some k) := Lib.hid (fun w9 h9 k hk => by
    rcases HG8.out k hk with h | ⟨h1, h2⟩
    · exact Or.inl h
    · have := HBut6.out.size
      exact Or.inr ⟨by omega, by omega⟩)
  clear HN' HG8 HK6 HK8 HBut6 HBut7 HX6 HX7 HR hold hs8 e4 e4s
  generalize (w'.setCell ⟨L.b, 4, none⟩ (.slice A8 (σ.op.length + 1) c8)) = w8 at *
  refine region_tail 11 (by kernel_rfl) (by kernel_rfl) ?_
  simp only [List.take_succ_cons, List.take_zero, List.drop_succ_cons, List.drop_zero]
  have HD := Lib.hid (HW.out.under (w' := w8.drew) (below_drewN' (Below.refl _ w8) 1))
  have HRS2 : Hid (∃ A m c, w8.drew.cell? ⟨L.gr, i, none⟩ = some (.slice A m c) ∧ m = (refsP G i).length ∧ Reads fN 1 w8.drew w8.drew.heap.size (refsP G i) A ∧ (refsP G i ≠ [] → ∀ a, A = some a → N' a.block)) := HRS
  have HX9 : Hid (StepB w8.drew bx) := HX8
  have HBut9 : Hid (But P w w8.drew) := Lib.hid ⟨HBut8.out.os, HBut8.out.tape, HBut8.out.output, HBut8.out.size, HBut8.out.block⟩
  have HN9 : Hid (∀ w9 : World, w8.drew.heap.size ≤ w9.heap.size → Grew w w9 N N') := HN8
  have HG10 : Hid (∀ w9 : World, w8.drew.heap.size ≤ w9.heap.size → Grew w w9 P fun k => P k ∨ (Value.slice A8 (σ.op.length + 1) c8).ownBlock = some k) := HG9
  clear HW HRS HX8 HBut8 HN8 HG9
  generalize w8.drew = w9 at *
  have c4 := HD.out.cell.2.2.2.2.1
  have c5' := HD.out.cell.2.2.2.2.2
  obtain ⟨f0, f1⟩ := HD.out.firsts i hi
  have HF := Lib.hid (HD.out.setF i (σ.op.length + 1) hi (Or.inr (Or.inr HRS2.out)))
  have hgf0 : L.gf < w9.heap.size := (HD.out.plow _ HD.out.pf).2
  have hgfx : L.gf ≠ bx := HGX.out
  have hgfx2 : bx ≠ L.gf := fun e => hgfx e.symm
  have hgfb : L.gf ≠ L.b := fun e => HD.out.d1.2.2.1 e.symm
  have hgfb2 : L.b ≠ L.gf := HD.out.d1.2.2.1
  obtain ⟨z0, z1, z2, z3⟩ := HX9.out.cells
  have z4 := z3 0
  have z5 := z3 1
  have z6 := z3 2
  iterate 11 still_step
  refine wpStill_nil ?_
  go_wp2_with fail
  have hc : ((σ.op.length + 1 : Nat) : Int) = (σ.op.length : Int) + 1 := by push_cast; rfl
  rw [hc] at HF
  have hcells : ((((w9.setCell ⟨L.gf, i, none⟩ (.int .i64 ((σ.op.length : Int) + 1))).setCell ⟨bx, 0, none⟩ (.int .i64 (i : Int))).setCell ⟨bx, 1, none⟩ (.int .i64 ((σ.op.length : Int) + 1))).setCell ⟨bx, 2, none⟩ (.int .i64 0)).heap[bx]? = some (.cells #[.int .i64 (i : Int), .int .i64 ((σ.op.length : Int) + 1), .int .i64 0] 97 (0, 0)) := by
    have h0 : (w9.setCell ⟨L.gf, i, none⟩ (.int .i64 ((σ.op.length : Int) + 1))).heap[bx]? = some (.cells #[.int .i64 0, .int .i64 0, .int .i64 0] 97 (0, 0)) := (HF.out.2.block bx HX9.out.lt hgfx2).trans HX9.out
    rw [heap_setCell_same _ bx 2 _ _ _ (heap_setCell_same _ bx 1 _ _ _ (heap_setCell_same _ bx 0 _ _ _ h0))]; rfl
  have hK : Kept bx (w9.setCell ⟨L.gf, i, none⟩ (.int .i64 ((σ.op.length : Int) + 1))) ((((w9.setCell ⟨L.gf, i, none⟩ (.int .i64 ((σ.op.length : Int) + 1))).setCell ⟨bx, 0, none⟩ (.int .i64 (i : Int))).setCell ⟨bx, 1, none⟩ (.int .i64 ((σ.op.length : Int) + 1))).setCell ⟨bx, 2, none⟩ (.int .i64 0)) := (((Kept.refl bx _).setCell 0 _).setCell 1 _).setCell 2 _
  have hs9 := HF.out.2.size
  have hBut := (HBut9.out.trans (But.kept HF.out.2) (fun k _ e => e ▸ HPF.out)).trans (But.kept hK) (fun k hk e => by omega)
  have hWS := HF.out.1.stay hK.size (fun k hk hor => hK.block k hk (fun e => by
    subst e
    rcases hor with h | h | h
    · omega
    · exact HPB.out h
    · exact HNB.out h))
  have hsz := hK.size
  have hG1 := HG10.out ((((w9.setCell ⟨L.gf, i, none⟩ (.int .i64 ((σ.op.length : Int) + 1))).setCell ⟨bx, 0, none⟩ (.int .i64 (i : Int))).setCell ⟨bx, 1, none⟩ (.int .i64 ((σ.op.length : Int) + 1))).setCell ⟨bx, 2, none⟩ (.int .i64 0)) (Nat.le_trans hs9 hsz)
  have hG2 := HN9.out ((((w9.setCell ⟨L.gf, i, none⟩ (.int .i64 ((σ.op.length : Int) + 1))).setCell ⟨bx, 0, none⟩ (.int .i64 (i : Int))).setCell ⟨bx, 1, none⟩ (.int .i64 ((σ.op.length : Int) + 1))).setCell ⟨bx, 2, none⟩ (.int .i64 0)) (Nat.le_trans hs9 hsz)
  generalize ((((w9.setCell ⟨L.gf, i, none⟩ (.int .i64 ((σ.op.length : Int) + 1))).setCell ⟨bx, 0, none⟩ (.int .i64 (i : Int))).setCell ⟨bx, 1, none⟩ (.int .i64 ((σ.op.length : Int) + 1))).setCell ⟨bx, 2, none⟩ (.int .i64 0)) = wz at *
  have y0 : wz.cell? ⟨bx, 0, none⟩ = some (.int .i64 (i : Int)) := by simp [World.cell?, hcells]
  have y1 : wz.cell? ⟨bx, 1, none⟩ = some (.int .i64 ((σ.op.length : Int) + 1)) := by simp [World.cell?, hcells]
  have y2 : wz.cell? ⟨bx, 2, none⟩ = some (.int .i64 0) := by simp [World.cell?, hcells]
  refine bodyPost_ret (v := .agg #[.int .i64 (i : Int), .int .i64 ((σ.op.length : Int) + 1), .int .i64 0]) (by simp [results, Tryz.results64, go_sem, y0, y1, y2]) rfl ⟨by rw [hc], hBut, _, _, _, hWS, hG1, hG2⟩
end Go.Proofs.YtakamedgdiffbaaGreatDoor.GraphC
namespace Go.Proofs.YtakamedgdiffbaaGreatDoor.GraphC
set_option linter.unusedVariables false
open Go.RowKit Go.Proofs.YtakamedgdiffbaaGreatDoor.NumC Go.Proofs.YtakamedgdiffbaaGreatDoor.RowsC
open Go.Proofs.YtakamedgdiffbaaGreatDoor.RefsC (Rc RAt hitsL RBox Srt)
open Go.Proofs.YtakamedgdiffbaaGreatDoor.AddrC (cellB fineB FineP Cell hasB beforeB)
open Go.Proofs.YtakamedgdiffbaaGreatDoor.TreeC (Kept)
def stepN (al : Nat → Nat) (R : List Nat) (s : Nat) : Nat := R.foldl (fun s j => (s ||| 2 ^ j) ||| al j) s
def ringN (al : Nat → Nat) (F : Nat → List Nat) (ring : List Nat) : Nat := ring.foldl (fun s x => stepN al (F x) s) 0
theorem step_bit (al : Nat → Nat) (R : List Nat) : ∀ (s j : Nat), (stepN al R s).testBit j = true ↔ s.testBit j = true ∨ ∃ y, y ∈ R ∧ (j = y ∨ (al y).testBit j = true) := by
  induction R with
  | nil => intro s j; exact ⟨Or.inl, fun h => h.elim id (fun ⟨y, hy, _⟩ => by cases hy)⟩
  | cons x R ih =>
    intro s j
    show (stepN al R ((s ||| 2 ^ x) ||| al x)).testBit j = true ↔ _
    rw [ih, Nat.testBit_or, Nat.testBit_or, Nat.testBit_two_pow, Bool.or_eq_true, Bool.or_eq_true, decide_eq_true_iff]
    constructor
    · rintro (((h | h) | h) | ⟨y, hy, h⟩)
      · exact Or.inl h
      · exact Or.inr ⟨x, List.mem_cons_self, Or.inl h.symm⟩
      · exact Or.inr ⟨x, List.mem_cons_self, Or.inr h⟩
      · exact Or.inr ⟨y, List.mem_cons_of_mem _ hy, h⟩
    · rintro (h | ⟨y, hy, h⟩)
      · exact Or.inl (Or.inl (Or.inl h))
      · rcases List.mem_cons.1 hy with e | e
        · subst e
          rcases h with h | h
          · exact Or.inl (Or.inl (Or.inr h.symm))
          · exact Or.inl (Or.inr h)
        · exact Or.inr ⟨y, e, h⟩
theorem ring_bit (al : Nat → Nat) (F : Nat → List Nat) (ring : List Nat) (j : Nat) : (ringN al F ring).testBit j = true ↔ ∃ x, x ∈ ring ∧ ∃ y, y ∈ F x ∧ (j = y ∨ (al y).testBit j = true) := by
  have key : ∀ (ring : List Nat) (s : Nat), (ring.foldl (fun s x => stepN al (F x) s) s).testBit j = true ↔ s.testBit j = true ∨ ∃ x, x ∈ ring ∧ ∃ y, y ∈ F x ∧ (j = y ∨ (al y).testBit j = true) := by
    intro ring
    induction ring with
    | nil => intro s; exact ⟨Or.inl, fun h => h.elim id (fun ⟨y, hy, _⟩ => by cases hy)⟩
    | cons x ring ih =>
      intro s
      rw [List.foldl_cons, ih, step_bit]
      constructor
      · rintro ((h | ⟨y, hy, h⟩) | ⟨z, hz, h⟩)
        · exact Or.inl h
        · exact Or.inr ⟨x, List.mem_cons_self, y, hy, h⟩
        · exact Or.inr ⟨z, List.mem_cons_of_mem _ hz, h⟩
      · rintro (h | ⟨z, hz, y, hy, h⟩)
        · exact Or.inl (Or.inl h)
        · rcases List.mem_cons.1 hz with e | e
          · subst e; exact Or.inl (Or.inr ⟨y, hy, h⟩)
          · exact Or.inr ⟨z, e, y, hy, h⟩
  have := key ring 0
  rw [Nat.zero_testBit] at this
  simpa [ringN] using this
def closeP (σ : Wk) (D : List Nat) (s : Nat) (op : List Nat) : Wk := { f := fun i => if i ∈ D then 1001 else σ.f i, al := fun i => if i ∈ D then s else σ.al i, op := op }
theorem close_nil (σ : Wk) (s : Nat) (op : List Nat) : closeP σ [] s op = { σ with op := op } := by simp [closeP]
theorem close_next (σ : Wk) (D : List Nat) (s x : Nat) (op : List Nat) :
    ({ ({ closeP σ D s op with al := upd (closeP σ D s op).al x s } : Wk) with f := upd ({ closeP σ D s op with al := upd (closeP σ D s op).al x s } : Wk).f x 1001 } : Wk) = closeP σ (D ++ [x]) s op := by
  unfold closeP upd
  simp only [List.mem_append, List.mem_singleton, Wk.mk.injEq, and_true]
  constructor <;> funext j <;> by_cases h1 : j = x <;> by_cases h2 : j ∈ D <;> simp [h1, h2] <;> simp_all
theorem close_all (σ : Wk) (m s : Nat) : closeP σ (σ.op.drop (m - 1)) s (σ.op.take (m - 1)) = closeW σ m s := rfl
def leaveW (G : Gl) (σ : Wk) (a m : Nat) : Wk := if σ.f a < m then σ else closeW σ m (ringN σ.al (refsP G) (σ.op.drop (m - 1)))
def LeavePost (B : Nat) (P N Q : Nat → Prop) (mo : Option Nat) (G : Gl) (L : WL) (σ : Wk) (a m : Nat) (w : World) (e : Ending) (w' : World) : Prop :=
  e = .returned (.tuple #[]) ∧ But P w w' ∧ ∃ v', WS w' B P N Q mo G L v' (leaveW G σ a m)
def setL (s : Nat) : List Value := (List.range 16).map fun i => Value.int .u64 ((wordN s i : Nat) : Int)
theorem setL_at (s j : Nat) (hj : j < 16) : (setL s)[j]? = some (.int .u64 ((wordN s j : Nat) : Int)) := by
  unfold setL
  rw [List.getElem?_map, List.getElem?_range hj]; rfl
theorem SAt.there {w : World} {g o s : Nat} (h : SAt w g o s) : w.there g o 16 := fun j hj => ⟨by rw [h.cell j hj]; rfl, h.soft j hj⟩
theorem kept_cells (g : Nat) : ∀ (vs : List Value) (o : Nat) (w : World), Kept g w (w.setCells g o vs)
  | [], _, w => Kept.refl g w
  | v :: vs, o, w => ((Kept.refl g w).setCell o v).trans (kept_cells g vs (o + 1) _)
theorem SAt.whole {w : World} {g o s t : Nat} (h : SAt w g o s) (ht : Top t) : SAt (w.setCells g o (setL t)) g o t where
  cell j hj := World.rangeAt_setCells_same w g o (setL t) (by simpa [setL] using h.there) j _ (setL_at t j hj)
  soft j hj := by rw [World.frozen?_setCells]; exact h.soft j hj
  top := ht
theorem SAt.apart {w : World} {g o p s t : Nat} (h : SAt w g o s) (hap : o + 16 ≤ p ∨ p + 16 ≤ o) : SAt (w.setCells g p (setL t)) g o s where
  cell j hj := by
    rw [World.cell?_setCells_out g (setL t) p w ⟨g, o + j, none⟩ (fun _ _ => by
      show o + j < p ∨ p + (setL t).length ≤ o + j
      have : (setL t).length = 16 := by simp [setL]
      omega)]
    exact h.cell j hj
  soft j hj := by rw [World.frozen?_setCells]; exact h.soft j hj
  top := h.top
theorem beside_cell {W V wr : World} {x : Nat} (hb : Below W.heap.size W V) (hx : W.heap.size ≤ x) (hk : Kept x V wr) {g o : Nat} {v : Value} (h : W.cell? ⟨g, o, none⟩ = some v) : wr.cell? ⟨g, o, none⟩ = some v := by
  have hlt := World.block_lt_of_cell? W _ h
  have hlt : g < W.heap.size := hlt
  exact (World.cell?_of_block (show wr.heap[g]? = W.heap[g]? from (hk.block g (Nat.lt_of_lt_of_le hlt hb.size) (by omega)).trans (hb.block g hlt))).trans h
theorem ring_next (al : Nat → Nat) (F : Nat → List Nat) (ring : List Nat) {k x : Nat} (hx : ring[k]? = some x) : ringN al F (ring.take (k + 1)) = stepN al (F x) (ringN al F (ring.take k)) := by
  unfold ringN
  rw [List.take_add_one, hx, List.foldl_append]; rfl
theorem step_next (al : Nat → Nat) (R : List Nat) (s : Nat) {j y : Nat} (hy : R[j]? = some y) : stepN al (R.take (j + 1)) s = (stepN al (R.take j) s ||| 2 ^ y) ||| al y := by
  unfold stepN
  rw [List.take_add_one, hy, List.foldl_append]; rfl
section
variable {w w' : World} {B : Nat} {P N Q : Nat → Prop} {mo : Option Nat} {G : Gl} {L : WL} {v : Value} {σ : Wk}
theorem WS.beside (h : WS w B P N Q mo G L v σ) {V wr : World} {x : Nat} (hb : Below w.heap.size w V) (hx : w.heap.size ≤ x) (hk : Kept x V wr) : WS wr B P N Q mo G L v σ :=
  h.stay (Nat.le_trans hb.size hk.size) fun k hlt _ => (hk.block k (Nat.lt_of_lt_of_le hlt hb.size) (by omega)).trans (hb.block k hlt)
theorem WS.cut (h : WS w B P N Q mo G L v σ) (k : Nat) (hk : k ≤ σ.op.length) {g c : Nat} (hv : v = .slice (some ⟨g, 0, none⟩) σ.op.length c) :
    WS (w.setCell ⟨L.b, 4, none⟩ (.slice (some ⟨g, 0, none⟩) k c)) B P N Q mo G L (.slice (some ⟨g, 0, none⟩) k c) { σ with op := σ.op.take k } ∧ But (fun k => k = L.b) w (w.setCell ⟨L.b, 4, none⟩ (.slice (some ⟨g, 0, none⟩) k c)) := by
  subst hv
  have hg : P g := (h.po g rfl).1
  have := h.setV (w5 := w) (v' := .slice (some ⟨g, 0, none⟩) k c) (op' := σ.op.take k) (Nat.le_refl _) (fun _ _ _ => rfl) (owns_take h.opn k hk) (Or.inr (Or.inl rfl))
  have e : (fun q => P q ∨ (Value.slice (some ⟨g, 0, none⟩) k c).ownBlock = some q) = P := by
    funext q
    refine propext ⟨fun hq => hq.elim id fun hq => ?_, Or.inl⟩
    cases hq; exact hg
  rw [e] at this
  exact this
theorem WS.opens (h : WS w B P N Q mo G L v σ) (hne : σ.op ≠ []) : ∃ g c, v = .slice (some ⟨g, 0, none⟩) σ.op.length c ∧ σ.op.length ≤ c ∧ P g ∧ g ≠ L.b ∧ g ≠ L.gr ∧ g ≠ L.ga ∧ g ≠ L.gf ∧ ∀ (q x : Nat), σ.op[q]? = some x → w.cell? ⟨g, q, none⟩ = some (.int .i64 (x : Int)) := by
  obtain ⟨h1, ⟨h2, h3⟩ | ⟨g, cap, cur, e, hb, hg, h2, -⟩⟩ := h.opn
  · exact absurd (List.length_eq_zero_iff.1 h3) hne
  · have hp := h.po g (by rw [e]; rfl)
    refine ⟨g, cap, e, h2, hp.1, hp.2.1, hp.2.2.1, hp.2.2.2.1, hp.2.2.2.2, fun q x hq => ?_⟩
    have ho := h.opn
    rw [e] at ho
    rcases (ho.reads kindN.row).2 with hr | ⟨g', o, e2, -, hr⟩
    · exact absurd hr hne
    · cases e2
      have := hr q x hq 0 _ rfl
      simpa using this
end
set_option maxHeartbeats 4000000 in
set_option maxRecDepth 100000 in
theorem cleave {B : Nat} {P N Q : Nat → Prop} {mo : Option Nat} {G : Gl} {L : WL} {v : Value} {σ : Wk} (a m : Nat) (t : Int) (w : World) (h : WS w B P N Q mo G L v σ) (ha : a < G.length) (hm1 : 1 ≤ m) (hm2 : m ≤ σ.op.length) (hop : ∀ x, x ∈ σ.op → x < G.length ∧ σ.f x ≠ 0) (hn : G.length ≤ 1000) (ho9 : σ.op.length ≤ 1000) :
    Calls Tryz.prog 73 #[.pointer (some ⟨L.b, 0, none⟩), .agg #[.int .i64 (a : Int), .int .i64 (m : Int), .int .i64 t]] w (LeavePost B P N Q mo G L σ a m w) := by
  have hb0 : Below w.heap.size w (w.alloc (.cells #[.int .i64 (a : Int), .int .i64 (m : Int), .int .i64 t] 97)) := (Below.refl _ w).alloc (Nat.le_refl _) _
  have hbx : (w.alloc (.cells #[.int .i64 (a : Int), .int .i64 (m : Int), .int .i64 t] 97)).heap[w.heap.size]? = some (.cells #[.int .i64 (a : Int), .int .i64 (m : Int), .int .i64 t] 97 (0, 0)) := heap_alloc_new _ _
  have H0 := Lib.hid (h.under hb0)
  have HB0 := Lib.hid hb0
  have HX := Lib.hid hbx
  have HOP := Lib.hid hop
  have HP := Lib.hid h.plow
  have HNL := Lib.hid h.nlow
  have HBB := Lib.hid h.base
  clear h hb0 hbx hop
  generalize hPost : LeavePost B P N Q mo G L σ a m w = POST
  have HPOST := Lib.hid hPost
  clear hPost
  go_enter Tryz.func73, Tryz.ntmps73
  go_wp2_with fail
  generalize (w.alloc (.cells #[.int .i64 (a : Int), .int .i64 (m : Int), .int .i64 t] 97)) = W at *
  generalize hbxn : w.heap.size = bx at *
  refine region_tail 10 (by kernel_rfl) (by kernel_rfl) ?_
  simp only [List.take_succ_cons, List.take_zero, List.drop_succ_cons, List.drop_zero]
  have H1 := Lib.hid (H0.out.under (w' := W.drew) (below_drewN' (Below.refl _ W) 1))
  have hX1 : W.drew.heap[bx]? = some (.cells #[.int .i64 (a : Int), .int .i64 (m : Int), .int .i64 t] 97 (0, 0)) := HX.out
  have HB1 : Hid (Below bx w W.drew) := Lib.hid (HB0.out.trans ((below_drewN' (Below.refl W.heap.size W) 1).mono (by have := HB0.out.size; omega)))
  clear H0 HB0 HX
  have y0 : W.drew.cell? ⟨bx, 0, none⟩ = some (.int .i64 (a : Int)) := by simp [World.cell?, hX1]
  have y1 : W.drew.cell? ⟨bx, 1, none⟩ = some (.int .i64 (m : Int)) := by simp [World.cell?, hX1]
  have HX1 := Lib.hid hX1
  clear hX1
  generalize W.drew = V at *
  have c5 := H1.out.cell.2.2.2.2.2
  obtain ⟨f0, -⟩ := H1.out.firsts a ha
  by_cases hf : σ.f a < m
  · have hd : ((σ.f a : Nat) : Int) < (m : Int) := by omega
    iterate 10 still_step
    refine wpStill_nil ?_
    go_wp2_with fail
    refine bodyPost_ret (results_none (by rfl) _ _ _) rfl ?_
    rw [← HPOST.out]
    exact ⟨rfl, But.of (by rw [hbxn]; exact HB1.out), v, by unfold leaveW; rw [if_pos hf]; exact H1.out⟩
  · have hd : ¬ ((σ.f a : Nat) : Int) < (m : Int) := by omega
    iterate 10 still_step
    refine wpStill_nil ?_
    go_wp2_with fail
    have HLW := Lib.hid (show leaveW G σ a m = closeW σ m (ringN σ.al (refsP G) (σ.op.drop (m - 1))) from if_neg hf)
    clear hf hd f0 c5
    refine region_tail 8 (by kernel_rfl) (by kernel_rfl) ?_
    simp only [List.take_succ_cons, List.take_zero, List.drop_succ_cons, List.drop_zero]
    have H2 := Lib.hid (H1.out.under (w' := V.drew) (below_drewN' (Below.refl _ V) 1))
    have HB2 : Hid (Below bx w V.drew) := Lib.hid (HB1.out.trans ((below_drewN' (Below.refl V.heap.size V) 1).mono (by have := HB1.out.size; omega)))
    replace y1 : V.drew.cell? ⟨bx, 1, none⟩ = some (.int .i64 (m : Int)) := y1
    clear y0 H1 HB1 HX1
    generalize V.drew = V2 at *
    have hne : σ.op ≠ [] := by rintro e; rw [e] at hm2; simp at hm2; omega
    obtain ⟨g, c, rfl, hgc, hgP, g1, g2, g3, g4, hcs⟩ := H2.out.opens hne
    have c4 := H2.out.cell.2.2.2.2.1
    obtain ⟨q, hq⟩ : ∃ q, q = m - 1 := ⟨_, rfl⟩
    have hwq : IntKind.i64.wrap ((m : Int) - 1) = (q : Int) := by
      rw [show (m : Int) - 1 = (q : Int) by omega, IntKind.wrap_i64]; omega
    have hq8 : (q : Int) ≤ (σ.op.length : Int) := by omega
    have hq9 : q ≤ σ.op.length := by omega
    have hq6 : q ≤ c := by omega
    have hq7 : ¬ c = q := by omega
    have HQ := Lib.hid hq
    clear hq
    iterate 8 still_step
    refine wpStill_nil ?_
    go_wp2_with fail
    refine region_tail 11 (by kernel_rfl) (by kernel_rfl) ?_
    simp only [List.take_succ_cons, List.take_zero, List.drop_succ_cons, List.drop_zero]
    have H3 := Lib.hid (H2.out.under (w' := V2.drew) (below_drewN' (Below.refl _ V2) 1))
    have HB3 : Hid (Below bx w V2.drew) := Lib.hid (HB2.out.trans ((below_drewN' (Below.refl V2.heap.size V2) 1).mono (by have := HB2.out.size; omega)))
    replace y1 : V2.drew.cell? ⟨bx, 1, none⟩ = some (.int .i64 (m : Int)) := y1
    replace c4 : V2.drew.cell? ⟨L.b, 4, none⟩ = some (.slice (some ⟨g, 0, none⟩) σ.op.length c) := c4
    have HCS : Hid (∀ (q x : Nat), σ.op[q]? = some x → V2.drew.cell? ⟨g, q, none⟩ = some (.int .i64 (x : Int))) := Lib.hid hcs
    clear H2 HB2 hcs
    generalize V2.drew = V3 at *
    have s4 := H3.out.soft 4
    have HC := Lib.hid (H3.out.cut q hq9 rfl)
    iterate 11 still_step
    refine wpStill_nil ?_
    go_wp2_with fail
    have hsz4 : (V3.setCell ⟨L.b, 4, none⟩ (.slice (some ⟨g, 0, none⟩) q c)).heap.size = V3.heap.size := by simp
    have hz := SAt.zero (V3.setCell ⟨L.b, 4, none⟩ (.slice (some ⟨g, 0, none⟩) q c))
    have B5 := Lib.hid ((Below.refl (V3.setCell ⟨L.b, 4, none⟩ (.slice (some ⟨g, 0, none⟩) q c)).heap.size (V3.setCell ⟨L.b, 4, none⟩ (.slice (some ⟨g, 0, none⟩) q c))).alloc (Nat.le_refl _) (.cells #[.int .u64 0, .int .u64 0, .int .u64 0, .int .u64 0, .int .u64 0, .int .u64 0, .int .u64 0, .int .u64 0, .int .u64 0, .int .u64 0, .int .u64 0, .int .u64 0, .int .u64 0, .int .u64 0, .int .u64 0, .int .u64 0] 73))
    have HC4 := Lib.hid HC.out.1
    have HBu := Lib.hid ((But.of (P := P) (by rw [hbxn]; exact HB3.out)).trans HC.out.2 (fun k _ e => e ▸ HC.out.1.pb))
    have HCS4 := Lib.hid (fun (q x : Nat) (hx : σ.op[q]? = some x) => HC.out.2.cell (g := g) g1 (HCS.out q x hx))
    rw [hsz4] at hz
    generalize hV5 : ((V3.setCell ⟨L.b, 4, none⟩ (.slice (some ⟨g, 0, none⟩) q c)).alloc (.cells #[.int .u64 0, .int .u64 0, .int .u64 0, .int .u64 0, .int .u64 0, .int .u64 0, .int .u64 0, .int .u64 0, .int .u64 0, .int .u64 0, .int .u64 0, .int .u64 0, .int .u64 0, .int .u64 0, .int .u64 0, .int .u64 0] 73)) = V5 at *
    clear hV5 HC HCS y1 c4 s4 H3 HB3
    generalize (V3.setCell ⟨L.b, 4, none⟩ (.slice (some ⟨g, 0, none⟩) q c)) = W4 at *
    generalize V3.heap.size = bs at *
    obtain ⟨ring, hring⟩ : ∃ r, r = σ.op.drop q := ⟨_, rfl⟩
    have hrl : σ.op.length - q = ring.length := by rw [hring, List.length_drop]
    have hle : W4.heap.size ≤ bs := Nat.le_of_eq hsz4
    have HFin : Hid (leaveW G σ a m = closeP σ ring (ringN σ.al (refsP G) ring) (σ.op.take q)) := Lib.hid (by rw [HLW.out, ← close_all, ← HQ.out, hring])
    have HM : Hid (∀ x, x ∈ ring → x < G.length ∧ σ.f x ≠ 0) := Lib.hid (fun x hx => HOP.out x (List.mem_of_mem_drop (by rw [← hring]; exact hx)))
    have HRC : Hid (∀ j x, ring[j]? = some x → W4.cell? ⟨g, q + j, none⟩ = some (.int .i64 ((x : Nat) : Int))) := Lib.hid (fun j x hx => HCS4.out (q + j) x (by rw [hring, List.getElem?_drop] at hx; exact hx))
    rw [hrl]
    clear HLW HCS4 HOP HQ hwq hring hsz4
    generalize c - q = cq at *
    have HPb := Lib.hid (fun k (hk : P k) => (HC4.out.plow k hk).2)
    go_loopw [44] (fun iv wr => ∃ k : Nat, k ≤ ring.length ∧ iv = .int .i64 k ∧ Hid (Kept bs V5 wr ∧ SAt wr bs 0 (ringN σ.al (refsP G) (ring.take k)))) (fun iv _ => ring.length - (intOf iv).toNat)
    case atStart => exact ⟨0, Nat.zero_le _, rfl, Lib.hid ⟨Kept.refl _ _, hz⟩⟩
    case round =>
      obtain ⟨k, hk, rfl, HR⟩ := hrel
      obtain ⟨hkp, hs⟩ := HR.out
      by_cases hlt : k < ring.length
      · have hd1 : (k : Int) < (ring.length : Int) := by omega
        obtain ⟨x, hx⟩ := RowsC.at_some ring k hlt
        have HNX := Lib.hid (ring_next σ.al (refsP G) ring hx)
        obtain ⟨hxn, hxf⟩ := HM.out x (List.mem_of_getElem? hx)
        have cx : wr.cell? ⟨g, q + k, none⟩ = some (.int .i64 (x : Int)) := beside_cell B5.out hle hkp (HRC.out k x hx)
        obtain ⟨-, A, m0, c0, r0, r1⟩ := HC4.out.refs x hxn
        obtain ⟨rfl, r2, r3⟩ := r1 hxf
        have e0 : wr.cell? ⟨L.gr, x, none⟩ = some (.slice A (refsP G x).length c0) := beside_cell B5.out hle hkp r0
        have e2 : wr.cell? ⟨L.b, 2, none⟩ = some (.slice (some ⟨L.gr, 0, none⟩) G.length G.length) := beside_cell B5.out hle hkp HC4.out.cell.2.2.1
        have hxn9 : (x : Int) < (G.length : Int) := by omega
        have hx0 : (0 : Int) ≤ (x : Int) := by omega
        have HR2 := Lib.hid r2
        have HK := Lib.hid hkp
        have HS := Lib.hid hs
        generalize ringN σ.al (refsP G) (ring.take k) = s0 at *
        clear r0 r1 r2 r3 hkp hs hx hz
        go_wp2_with fail
        go_loopw [56] (fun jv wz => ∃ j : Nat, j ≤ (refsP G x).length ∧ jv = .int .i64 j ∧ Hid (Kept bs V5 wz ∧ SAt wz bs 0 (stepN σ.al ((refsP G x).take j) s0))) (fun jv _ => (refsP G x).length - (intOf jv).toNat)
        case atStart => exact ⟨0, Nat.zero_le _, rfl, Lib.hid ⟨HK.out, HS.out⟩⟩
        case round =>
          obtain ⟨j, hj, rfl, HJ⟩ := hrel
          obtain ⟨hkz, hsz⟩ := HJ.out
          clear cx e0 e2
          by_cases hlt2 : j < (refsP G x).length
          · have hd2 : (j : Int) < ((refsP G x).length : Int) := by omega
            obtain ⟨y, hy⟩ := RowsC.at_some (refsP G x) j hlt2
            have hyn := refs_lt (List.mem_of_getElem? hy)
            have hrl9 := refs_len G x
            have HNY := Lib.hid (step_next σ.al (refsP G x) s0 hy)
            obtain ⟨h9, o9, rfl, z0⟩ : ∃ h9 o9, A = some ⟨h9, o9, none⟩ ∧ W4.cell? ⟨h9, o9 + j, none⟩ = some (.int .i64 (y : Int)) := by
              rcases HR2.out with e | ⟨h9, o9, e, -, hr⟩
              · rw [e] at hlt2; simp at hlt2
              · exact ⟨h9, o9, e, by have := hr j y hy 0 _ rfl; simpa using this⟩
            replace z0 := beside_cell B5.out hle hkz z0
            have hcall := csput bs (stepN σ.al ((refsP G x).take j) s0) y wr (by omega) hsz
            have HKZ := Lib.hid hkz
            generalize stepN σ.al ((refsP G x).take j) s0 = s1 at *
            clear hkz hsz hy
            go_wp2_with fail
            refine hcall.mono ?_; rintro e w7 ⟨rfl, hk7, hs7⟩
            have hk8 := HKZ.out.trans hk7
            have hWS := HC4.out.beside B5.out hle hk8
            have hT := hWS.alls y hyn
            have e3 := hWS.cell.2.2.2.1
            have hcall2 := csadd bs _ L.ga (y * 16) (σ.al y) w7 hs7 hT (fun e => by have := HPb.out _ HC4.out.pa; omega)
            have hy9 : (y : Int) < (G.length : Int) := by omega
            have hy0 : (0 : Int) ≤ (y : Int) := by omega
            have HK8 := Lib.hid hk8
            clear hcall hk7 hs7 hk8 hWS hT z0
            go_wp2_with fail
            refine hcall2.mono ?_; rintro e w8 ⟨rfl, hk9, hs9⟩
            have HF := Lib.hid (And.intro (HK8.out.trans hk9) hs9)
            clear hcall2 hk9 hs9 e3
            go_wp2_with fail
            go_roundw
            case rel => exact ⟨j + 1, by omega, by go_num, Lib.hid ⟨HF.out.1, by rw [HNY.out]; exact HF.out.2⟩⟩
            case measure => simp [intOf]; omega
          · have hd2 : ¬ (j : Int) < ((refsP G x).length : Int) := by omega
            obtain rfl : j = (refsP G x).length := by omega
            rw [List.take_length] at hsz
            have HF := Lib.hid (And.intro hkz hsz)
            clear hkz hsz
            go_wp2_with fail
            go_roundw
            case rel => exact ⟨k + 1, by omega, by go_num, Lib.hid ⟨HF.out.1, by rw [HNX.out]; exact HF.out.2⟩⟩
            case measure => simp [intOf]; omega
      · have hd1 : ¬ (k : Int) < (ring.length : Int) := by omega
        obtain rfl : k = ring.length := by omega
        rw [List.take_length] at hs
        generalize ringN σ.al (refsP G) ring = S at *
        have HWS := Lib.hid (HC4.out.beside B5.out hle hkp)
        have HS := Lib.hid hs
        have HBw : Hid (But P w wr) := Lib.hid ⟨hkp.os.trans (B5.out.os.trans HBu.out.os), hkp.tape.trans (B5.out.tape.trans HBu.out.tape), hkp.output.trans (B5.out.output.trans HBu.out.output), Nat.le_trans HBu.out.size (Nat.le_trans B5.out.size hkp.size), fun k hk hn => (hkp.block k (by have := HBu.out.size; have := B5.out.size; omega) (by have := HBu.out.size; omega)).trans ((B5.out.block k (by have := HBu.out.size; omega)).trans (HBu.out.block k hk hn))⟩
        have HRW : Hid (∀ j x, ring[j]? = some x → wr.cell? ⟨g, q + j, none⟩ = some (.int .i64 ((x : Nat) : Int))) := Lib.hid (fun j x hx => beside_cell B5.out hle hkp (HRC.out j x hx))
        have hbsP : ¬ P bs := fun hp => by have := HPb.out _ hp; omega
        clear hs hkp hz HR HC4 B5 HBu HRC
        generalize wr = W8 at *
        go_wp2_with fail
        go_loopw [73] (fun iv wz => ∃ k : Nat, k ≤ ring.length ∧ iv = .int .i64 k ∧ Hid (WS wz B P N Q mo G L (.slice (some ⟨g, 0, none⟩) q c) (closeP σ (ring.take k) S (σ.op.take q)) ∧ But (fun b => b = L.ga ∨ b = L.gf) W8 wz)) (fun iv _ => ring.length - (intOf iv).toNat)
        case atStart => exact ⟨0, Nat.zero_le _, rfl, Lib.hid ⟨by rw [List.take_zero, close_nil]; exact HWS.out, ⟨rfl, rfl, rfl, Nat.le_refl _, fun _ _ _ => rfl⟩⟩⟩
        case round =>
          obtain ⟨k, hk, rfl, HR⟩ := hrel
          obtain ⟨hws, hbu⟩ := HR.out
          have hbsa : ¬ (bs = L.ga ∨ bs = L.gf) := fun e => e.elim (fun e => hbsP (e ▸ hws.pa)) (fun e => hbsP (e ▸ hws.pf))
          have hga : ¬ (g = L.ga ∨ g = L.gf) := fun e => e.elim g3 g4
          by_cases hlt : k < ring.length
          · have hd1 : (k : Int) < (ring.length : Int) := by omega
            obtain ⟨x, hx⟩ := RowsC.at_some ring k hlt
            obtain ⟨hxn, hxf⟩ := HM.out x (List.mem_of_getElem? hx)
            have hset := hws.alls x hxn
            have HNX : Hid (ring.take (k + 1) = ring.take k ++ [x]) := Lib.hid (by rw [List.take_add_one, hx]; rfl)
            have cx : wr.cell? ⟨g, q + k, none⟩ = some (.int .i64 (x : Int)) := hbu.cell hga (HRW.out k x hx)
            have hxn9 : (x : Int) < (G.length : Int) := by omega
            have hx0 : (0 : Int) ≤ (x : Int) := by omega
            have HWz := Lib.hid hws
            have HBz := Lib.hid hbu
            have HSz := Lib.hid (HS.out.but hbu hbsa)
            clear hws hbu hx hset
            go_wp2_with fail
            refine region_tail 7 (by kernel_rfl) (by kernel_rfl) ?_
            simp only [List.take_succ_cons, List.take_zero, List.drop_succ_cons, List.drop_zero]
            have HD := Lib.hid (HWz.out.under (w' := wr.drew) (below_drewN' (Below.refl _ wr) 1))
            have HSd : Hid (SAt wr.drew bs 0 S) := Lib.hid (HSz.out.block rfl)
            have HBd : Hid (But (fun b => b = L.ga ∨ b = L.gf) W8 wr.drew) := Lib.hid ⟨HBz.out.os, HBz.out.tape, HBz.out.output, HBz.out.size, HBz.out.block⟩
            clear HWz HBz HSz cx
            generalize wr.drew = Z at *
            have e3 := HD.out.cell.2.2.2.1
            have k0 : Z.cell? ⟨bs, 0, none⟩ = some (.int .u64 ((wordN S 0 : Nat) : Int)) := HSd.out.cell 0 (by decide)
            have k1 : Z.cell? ⟨bs, 1, none⟩ = some (.int .u64 ((wordN S 1 : Nat) : Int)) := HSd.out.cell 1 (by decide)
            have k2 : Z.cell? ⟨bs, 2, none⟩ = some (.int .u64 ((wordN S 2 : Nat) : Int)) := HSd.out.cell 2 (by decide)
            have k3 : Z.cell? ⟨bs, 3, none⟩ = some (.int .u64 ((wordN S 3 : Nat) : Int)) := HSd.out.cell 3 (by decide)
            have k4 : Z.cell? ⟨bs, 4, none⟩ = some (.int .u64 ((wordN S 4 : Nat) : Int)) := HSd.out.cell 4 (by decide)
            have k5 : Z.cell? ⟨bs, 5, none⟩ = some (.int .u64 ((wordN S 5 : Nat) : Int)) := HSd.out.cell 5 (by decide)
            have k6 : Z.cell? ⟨bs, 6, none⟩ = some (.int .u64 ((wordN S 6 : Nat) : Int)) := HSd.out.cell 6 (by decide)
            have k7 : Z.cell? ⟨bs, 7, none⟩ = some (.int .u64 ((wordN S 7 : Nat) : Int)) := HSd.out.cell 7 (by decide)
            have k8 : Z.cell? ⟨bs, 8, none⟩ = some (.int .u64 ((wordN S 8 : Nat) : Int)) := HSd.out.cell 8 (by decide)
            have k9 : Z.cell? ⟨bs, 9, none⟩ = some (.int .u64 ((wordN S 9 : Nat) : Int)) := HSd.out.cell 9 (by decide)
            have k10 : Z.cell? ⟨bs, 10, none⟩ = some (.int .u64 ((wordN S 10 : Nat) : Int)) := HSd.out.cell 10 (by decide)
            have k11 : Z.cell? ⟨bs, 11, none⟩ = some (.int .u64 ((wordN S 11 : Nat) : Int)) := HSd.out.cell 11 (by decide)
            have k12 : Z.cell? ⟨bs, 12, none⟩ = some (.int .u64 ((wordN S 12 : Nat) : Int)) := HSd.out.cell 12 (by decide)
            have k13 : Z.cell? ⟨bs, 13, none⟩ = some (.int .u64 ((wordN S 13 : Nat) : Int)) := HSd.out.cell 13 (by decide)
            have k14 : Z.cell? ⟨bs, 14, none⟩ = some (.int .u64 ((wordN S 14 : Nat) : Int)) := HSd.out.cell 14 (by decide)
            have k15 : Z.cell? ⟨bs, 15, none⟩ = some (.int .u64 ((wordN S 15 : Nat) : Int)) := HSd.out.cell 15 (by decide)
            iterate 7 still_step
            refine wpStill_nil ?_
            have hfx : (closeP σ (ring.take k) S (σ.op.take q)).f x ≠ 0 := by
              show (if x ∈ ring.take k then 1001 else σ.f x) ≠ 0
              split
              · decide
              · exact hxf
            refine wpList_store_mid rfl 73 (.tmp 83) (.tmp 82) rfl L.ga (x * 16) (setL S).toArray rfl rfl (HD.out.alls x hxn).there (by kernel_rfl) (all_oneCell_toArray fun v hv => by obtain ⟨i, -, rfl⟩ := List.mem_map.1 hv; rfl) ?_
            have HA := Lib.hid (HD.out.setA x S hxn (kept_cells L.ga (setL S) (x * 16) Z) ((HD.out.alls x hxn).whole HSd.out.top) (fun j hj hne => (HD.out.alls j hj).apart (by omega)))
            have HBa := Lib.hid (HBd.out.trans (But.kept (kept_cells L.ga (setL S) (x * 16) Z)) (fun k _ e => Or.inl e))
            rw [show (setL S).toArray.toList = setL S from rfl]
            clear k0 k1 k2 k3 k4 k5 k6 k7 k8 k9 k10 k11 k12 k13 k14 k15 e3 HD HSd HBd
            generalize Z.setCells L.ga (x * 16) (setL S) = Y at *
            have e5 := HA.out.cell.2.2.2.2.2
            obtain ⟨f0, f1⟩ := HA.out.firsts x hxn
            have HFx := Lib.hid (HA.out.setF x 1001 hxn (Or.inr (Or.inl hfx)))
            clear HA hfx
            rw [close_next] at HFx
            go_wp2_with fail
            go_roundw
            case rel => exact ⟨k + 1, by omega, by go_num, Lib.hid ⟨by rw [HNX.out]; exact HFx.out.1, HBa.out.trans (But.kept HFx.out.2) (fun k _ e => Or.inr e)⟩⟩
            case measure => simp [intOf]; omega
          · have hd1 : ¬ (k : Int) < (ring.length : Int) := by omega
            obtain rfl : k = ring.length := by omega
            rw [List.take_length] at hws
            have HF : Hid (LeavePost B P N Q mo G L σ a m w (.returned (.tuple #[])) wr) := Lib.hid ⟨rfl, HBw.out.trans hbu (fun k _ e => e.elim (fun e => e ▸ hws.pa) (fun e => e ▸ hws.pf)), _, by rw [HFin.out]; exact hws⟩
            clear hws hbu
            go_wp2_with fail
            refine bodyPost_end (results_none (by rfl) _ _ _) rfl ?_
            rw [← HPOST.out]
            exact HF.out
end Go.Proofs.YtakamedgdiffbaaGreatDoor.GraphC
