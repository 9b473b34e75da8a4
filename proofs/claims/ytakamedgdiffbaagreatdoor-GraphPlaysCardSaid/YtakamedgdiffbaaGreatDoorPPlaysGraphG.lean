/-
  A cell that is set, as plain functions, and what a row of cells says of the graph.
-/
import Derived.Test.YtakamedgdiffbaaGreatDoorPPlaysGraphE
import Derived.Test.YtakamedgdiffbaaGreatDoorPPlaysRefsJ
import Derived.Test.YtakamedgdiffbaaGreatDoorPPlaysGraphM
namespace Go.Proofs.YtakamedgdiffbaaGreatDoor.GraphC
set_option linter.unusedVariables false
open Go.RowKit Go.Proofs.YtakamedgdiffbaaGreatDoor.NumC Go.Proofs.YtakamedgdiffbaaGreatDoor.RowsC
open Go.Proofs.YtakamedgdiffbaaGreatDoor.RefsC (Rc RAt hitsL putL putsL OS)
open Go.Proofs.YtakamedgdiffbaaGreatDoor.AddrC (cellB fineB beforeB)
open Go.Proofs.YtakamedgdiffbaaGreatDoor.TreeC (Kept)
def bfP (x y : Pt) : Bool := beforeB x.r x.c y.r y.c
theorem goesP : Goes bfP where
  irr a := by unfold bfP beforeB; rw [decide_eq_false_iff_not]; omega
  tr a b c h k := by unfold bfP beforeB at *; rw [decide_eq_true_eq] at *; omega
  tot a b h k := by
    unfold bfP beforeB at *
    rw [decide_eq_false_iff_not] at *
    obtain ⟨r, c⟩ := a; obtain ⟨r', c'⟩ := b
    simp only at h k
    have e1 : r = r' := by omega
    have e2 : c = c' := by omega
    rw [e1, e2]
def fineX (x : Rc) : Bool := fineB x.a x.b x.c x.d
def setR (G : Gl) (a : Pt) (l : List Rc) : Int × Gl :=
  if cellB a.r a.c = false then (15, G)
  else if l.all fineX = false then (15, G)
  else if putsL [] l = [] then (0, lessG G a)
  else if 1000 ≤ (lessG G a).length then (3, G)
  else (0, putG bfP (lessG G a) (a, putsL [] l))
theorem ahead_at {G : Gl} {a : Pt} {k : Nat} (hk : k ≤ G.length) (h : ∀ i x, i < k → G[i]? = some x → bfP x.1 a = true) (he : k = G.length ∨ ∃ x, G[k]? = some x ∧ bfP x.1 a = false) : aheadG bfP G a = k := by
  induction G generalizing k with
  | nil => simp at hk; rw [hk]; rfl
  | cons y G ih =>
    unfold aheadG
    cases k with
    | zero =>
      rcases he with he | ⟨x, hx, hf⟩
      · simp at he
      · simp at hx; subst hx; rw [if_neg (by rw [hf]; decide)]
    | succ k =>
      rw [if_pos (h 0 y (by omega) rfl)]
      rw [ih (k := k) (by simpa using hk) (fun i x hi hx => h (i + 1) x (by omega) (by simpa using hx)) (by
        rcases he with he | ⟨x, hx, hf⟩
        · left; simpa using he
        · right; exact ⟨x, by simpa using hx, hf⟩)]
theorem less_step {G : Gl} {j : Nat} {x : Pt × List Rc} (hx : G[j]? = some x) (a : Pt) : lessG (G.take (j + 1)) a = if (!decide (x.1 = a)) = true then lessG (G.take j) a ++ [x] else lessG (G.take j) a := by
  unfold lessG
  rw [List.take_add_one, hx, List.filter_append]
  split
  · rename_i h; rw [show (some x).toList = [x] from rfl, List.filter_cons_of_pos (by simpa using h)]; rfl
  · rename_i h; rw [show (some x).toList = [x] from rfl, List.filter_cons_of_neg (by simpa using h)]; simp
theorem less_len (G : Gl) (a : Pt) : (lessG G a).length ≤ G.length := List.length_filter_le _ _
theorem put_le (l : List Rc) (x : Rc) : (putL l x).length ≤ l.length + 1 := by
  induction l with
  | nil => exact Nat.le_refl _
  | cons y l ih =>
    unfold putL
    split
    · simp only [List.length_cons]; omega
    · split <;> simp only [List.length_cons] <;> omega
theorem puts_len (m l : List Rc) : (putsL l m).length ≤ l.length + m.length := by
  induction m generalizing l with
  | nil => exact Nat.le_refl _
  | cons x m ih =>
    have h1 := ih (putL l x)
    have h2 := put_le l x
    show (putsL (putL l x) m).length ≤ _
    rw [List.length_cons]; omega
theorem puts_step {l : List Rc} {i : Nat} {x : Rc} (hx : l[i]? = some x) : putsL [] (l.take (i + 1)) = putL (putsL [] (l.take i)) x := by
  rw [List.take_add_one, hx]; unfold putsL; rw [List.foldl_append]; rfl
theorem Bnd.set {G : Gl} (h : Bnd G) (a : Pt) (l : List Rc) (hl : l.length ≤ 1000) : Bnd (setR G a l).2 := by
  have hp := puts_len l []
  have hll := less_len G a
  have hle : ∀ x, x ∈ lessG G a → x.2.length ≤ 1000 := fun x hx => h.2 x (mem_less.1 hx).1
  have h1 := h.1
  unfold setR
  split
  · exact h
  · split
    · exact h
    · split
      · exact ⟨Nat.le_trans hll h1, hle⟩
      · split
        · exact h
        · rename_i h5
          refine ⟨?_, fun x hx => ?_⟩
          · show (putG bfP (lessG G a) (a, putsL [] l)).length ≤ 1000
            unfold putG
            rw [List.length_append, List.length_cons, List.length_take, List.length_drop]
            omega
          · rcases mem_put.1 hx with e | e
            · rw [e]; simp only [List.length_nil] at hp; show (putsL [] l).length ≤ 1000; omega
            · exact hle x e
theorem SrtG.setR {G : Gl} (h : SrtG bfP G) (a : Pt) (l : List Rc) : SrtG bfP (setR G a l).2 := by
  unfold GraphC.setR
  split
  · exact h
  · split
    · exact h
    · split
      · exact h.less a
      · split
        · exact h
        · exact (h.less a).put goesP fun y hy => (mem_less.1 hy).2
/-! Rows and what they say. -/
theorem Ties.nil (w : World) (FP : Nat → Prop) : Ties w FP [] [] := ⟨rfl, fun i t x h => by cases h⟩
theorem Ties.app {w : World} {FP : Nat → Prop} {ts us : List Tp} {G H : Gl} (h : Ties w FP ts G) (k : Ties w FP us H) : Ties w FP (ts ++ us) (G ++ H) := by
  refine ⟨by rw [List.length_append, List.length_append, h.1, k.1], fun i t x ht hx => ?_⟩
  by_cases hi : i < ts.length
  · rw [List.getElem?_append_left hi] at ht
    rw [List.getElem?_append_left (by rw [← h.1]; exact hi)] at hx
    exact h.2 i t x ht hx
  · rw [List.getElem?_append_right (by omega)] at ht
    rw [List.getElem?_append_right (by rw [← h.1]; omega), ← h.1] at hx
    exact k.2 _ t x ht hx
theorem Ties.one {w : World} {FP : Nat → Prop} {t : Tp} {x : Pt × List Rc} (h1 : x.1 = ⟨t.r, t.c⟩) (h2 : t.n = x.2.length) (h3 : RAt w w.heap.size x.2 t.A) (h4 : x.2 ≠ [] → ∀ a, t.A = some a → FP a.block) : Ties w FP [t] [x] := by
  refine ⟨rfl, fun i u y hu hy => ?_⟩
  cases i with
  | zero => cases hu; cases hy; exact ⟨h1, h2, h3, h4⟩
  | succ i => cases hu
theorem Ties.take {w : World} {FP : Nat → Prop} {ts : List Tp} {G : Gl} (h : Ties w FP ts G) (k : Nat) : Ties w FP (ts.take k) (G.take k) := by
  refine ⟨by rw [List.length_take, List.length_take, h.1], fun i t x ht hx => ?_⟩
  rw [List.getElem?_take] at ht hx
  split at ht
  · rw [if_pos (by assumption)] at hx; exact h.2 i t x ht hx
  · cases ht
theorem Ties.drop {w : World} {FP : Nat → Prop} {ts : List Tp} {G : Gl} (h : Ties w FP ts G) (k : Nat) : Ties w FP (ts.drop k) (G.drop k) := by
  refine ⟨by rw [List.length_drop, List.length_drop, h.1], fun i t x ht hx => ?_⟩
  rw [List.getElem?_drop] at ht hx
  exact h.2 _ t x ht hx
theorem slice_no_int {w : World} {b g o n c : Nat} {A : Option Addr} {ty : TypeId} {fr : Nat × Nat} {k : IntKind} {v : Int} (hb : w.heap[b]? = some (.cells #[.slice A n c] ty fr)) (hc : w.cell? ⟨g, o, none⟩ = some (.int k v)) : g ≠ b := by
  rintro rfl
  rw [cell_of_row w g o _ ty fr hb] at hc
  cases o with
  | zero => simp at hc
  | succ o => simp at hc
theorem stored_rat {w : World} {b n c B : Nat} {A E : Option Addr} {ty : TypeId} {fr : Nat × Nat} {l : List Rc} {u : Value} (hb : w.heap[b]? = some (.cells #[.slice A n c] ty fr)) (h : RAt w B l E) : RAt (w.setCell ⟨b, 0, none⟩ u) B l E := by
  rcases h with h | ⟨g, o, e, hg, h⟩
  · exact Or.inl h
  · refine Or.inr ⟨g, o, e, hg, fun i y hy => ?_⟩
    obtain ⟨c0, c1, c2, c3⟩ := h i y hy
    have hne := slice_no_int hb c0
    have hh : ∀ p, (w.setCell ⟨b, 0, none⟩ u).cell? ⟨g, p, none⟩ = w.cell? ⟨g, p, none⟩ := fun p => World.cell?_of_block (heap_setCell_other w ⟨b, 0, none⟩ g u hne)
    exact ⟨(hh _).trans c0, (hh _).trans c1, (hh _).trans c2, (hh _).trans c3⟩
theorem GSt.frozen {w : World} {FP : Nat → Prop} {b : Nat} {G : Gl} (h : GSt w FP b G) : w.frozen? ⟨b, 0, none⟩ = false := by
  obtain ⟨ty, A, c, ts, h, -⟩ := h
  exact frozen_of_row w b 0 _ ty h
def NewP (FP : Nat → Prop) (w : World) : Nat → Prop := fun k => FP k ∨ w.heap.size ≤ k
def SetPost (FP : Nat → Prop) (b : Nat) (r : Int × Gl) (w : World) (e : Ending) (w' : World) : Prop := e = .returned (.int .i64 r.1) ∧ GSt w' (NewP FP w) b r.2 ∧ Kept b w w'
theorem GSt.store {w V : World} {FP : Nat → Prop} {b B n c : Nat} {A : Option Addr} {G H : Gl} {ts : List Tp} (hk : Below w.heap.size w V) (h : GSt w FP b G) (ho : Owns fT 3 60 V B (.slice A n c) ts) (hB : w.heap.size ≤ B) (ht : Ties V (NewP FP w) ts H) :
    GSt (V.setCell ⟨b, 0, none⟩ (.slice A n c)) (NewP FP w) b H ∧ Kept b w (V.setCell ⟨b, 0, none⟩ (.slice A n c)) := by
  have hlt := h.lt
  have hown := h.own
  obtain ⟨ty, A0, c0, ts0, hb, -⟩ := h
  have hbV : V.heap[b]? = some (.cells #[.slice A0 ts0.length c0] ty (0, 0)) := (hk.block b hlt).trans hb
  obtain ⟨hn, hr⟩ := ho.reads kindT.row
  subst hn
  refine ⟨⟨ty, A, c, ts, ?_, ?_, ⟨ht.1, fun i t x h1 h2 => ?_⟩, Or.inl hown, fun hne a ha => Or.inr ?_⟩, (Kept.of hk).setCell 0 _⟩
  · rw [heap_setCell_same V b 0 _ ty _ hbV]; rfl
  · rcases hr with hr | ⟨g, o, e, hg, hr⟩
    · exact Or.inl hr
    · refine Or.inr ⟨g, o, e, by simpa using hg, fun i x hx j u hj => ?_⟩
      have hne : g ≠ b := by
        have := (ho.lt g (by rw [e]; rfl)).1
        omega
      exact (World.cell?_of_block (heap_setCell_other V ⟨b, 0, none⟩ g _ hne)).trans (hr i x hx j u hj)
  · obtain ⟨e1, e2, e3, e4⟩ := ht.2 i t x h1 h2
    exact ⟨e1, e2, by
      have := stored_rat (u := .slice A ts.length c) hbV e3
      simpa using this, e4⟩
  · exact Nat.le_trans hB (ho.lt a.block (by rw [ha]; rfl)).1
end Go.Proofs.YtakamedgdiffbaaGreatDoor.GraphC
namespace Go.Proofs.YtakamedgdiffbaaGreatDoor.GraphC
set_option linter.unusedVariables false
open Go.RowKit Go.Proofs.YtakamedgdiffbaaGreatDoor.NumC Go.Proofs.YtakamedgdiffbaaGreatDoor.RowsC
open Go.Proofs.YtakamedgdiffbaaGreatDoor.RefsC (Rc RAt hitsL putL putsL OS)
open Go.Proofs.YtakamedgdiffbaaGreatDoor.TreeC (Kept)
set_option maxRecDepth 100000 in
theorem pCell (r c : Int) (w : World) : Calls Tryz.prog 23 #[.int .i64 r, .int .i64 c] w fun e w' => e = .returned (.agg #[.int .i64 r, .int .i64 c]) ∧ Below w.heap.size w w' := by
  have hz : ∀ o, w.heap.size < (w.alloc o).heap.size := fun o => by simp
  go_enter Tryz.func23, Tryz.ntmps23
  go_wp2
  refine bodyPost_ret (v := .agg #[.int .i64 r, .int .i64 c]) (by simp [results, Tryz.results23, go_sem]) rfl ⟨rfl, ?_⟩
  exact (Below.refl _ w).alloc (Nat.le_refl _) _
set_option maxRecDepth 100000 in
theorem pOne (r c : Int) (w : World) : Calls Tryz.prog 24 #[.int .i64 r, .int .i64 c] w fun e w' => e = .returned (.agg #[.int .i64 r, .int .i64 c, .int .i64 r, .int .i64 c]) ∧ Below w.heap.size w w' := by
  go_enter Tryz.func24, Tryz.ntmps24
  go_wp2_with fail
  refine (pCell r c _).mono ?_; rintro e w1 ⟨rfl, hb1⟩
  have hlt : w.heap.size < (w.alloc (.cells #[.int .i64 0, .int .i64 0, .int .i64 0, .int .i64 0] 51)).heap.size := by simp
  have k0 : w1.cell? ⟨w.heap.size, 0, none⟩ = some (.int .i64 0) := (hb1.cell (p := ⟨_, 0, none⟩) hlt).trans (by simp [go_sem])
  have k1 : w1.cell? ⟨w.heap.size, 1, none⟩ = some (.int .i64 0) := (hb1.cell (p := ⟨_, 1, none⟩) hlt).trans (by simp [go_sem])
  have k2 : w1.cell? ⟨w.heap.size, 2, none⟩ = some (.int .i64 0) := (hb1.cell (p := ⟨_, 2, none⟩) hlt).trans (by simp [go_sem])
  have k3 : w1.cell? ⟨w.heap.size, 3, none⟩ = some (.int .i64 0) := (hb1.cell (p := ⟨_, 3, none⟩) hlt).trans (by simp [go_sem])
  obtain ⟨hc, hf⟩ := bcell hb1
  have f0 : ∀ o, w1.frozen? ⟨w.heap.size, o, none⟩ = false := fun o => (hf _ o hlt).trans (by simp [go_sem])
  have f1 := f0 0
  have f2 := f0 1
  have f3 := f0 2
  have f4 := f0 3
  have hz : w.heap.size < w1.heap.size := Nat.lt_of_lt_of_le hlt hb1.size
  have hne : w.heap.size ≠ w1.heap.size := Nat.ne_of_lt hz
  have hB := below_of hb1
  clear hc hf f0 hb1 hlt
  go_wp2_with fail
  refine bodyPost_ret (v := .agg #[.int .i64 r, .int .i64 c, .int .i64 r, .int .i64 c]) (by simp [results, Tryz.results24, go_sem, hz, k0, k1, k2, k3]) rfl ⟨rfl, ?_⟩
  repeat (first | with_reducible exact hB | with_reducible refine Below.setCell ?_ (by simp <;> omega) _ | with_reducible refine Below.alloc ?_ (by simp <;> omega) _)
structure But (P : Nat → Prop) (w w' : World) : Prop where
  os : w'.os = w.os
  tape : w'.tape = w.tape
  output : w'.output = w.output
  size : w.heap.size ≤ w'.heap.size
  block : ∀ k, k < w.heap.size → ¬ P k → w'.heap[k]? = w.heap[k]?
theorem But.of {P : Nat → Prop} {w w' : World} (h : Below w.heap.size w w') : But P w w' := ⟨h.os, h.tape, h.output, h.size, fun k hk _ => h.block k hk⟩
theorem But.kept {b : Nat} {w w' : World} (h : Kept b w w') : But (fun k => k = b) w w' := ⟨h.os, h.tape, h.output, h.size, fun k hk hn => h.block k hk hn⟩
theorem But.trans {P Q : Nat → Prop} {a b c : World} (h : But P a b) (g : But Q b c) (hq : ∀ k, k < a.heap.size → Q k → P k) : But P a c :=
  ⟨g.os.trans h.os, g.tape.trans h.tape, g.output.trans h.output, Nat.le_trans h.size g.size, fun k hk hn => (g.block k (Nat.lt_of_lt_of_le hk h.size) (fun e => hn (hq k hk e))).trans (h.block k hk hn)⟩
theorem But.cell {P : Nat → Prop} {w w' : World} (h : But P w w') {g o : Nat} {v : Value} (hn : ¬ P g) (hv : w.cell? ⟨g, o, none⟩ = some v) : w'.cell? ⟨g, o, none⟩ = some v :=
  (World.cell?_of_block (h.block g (World.block_lt_of_cell? w ⟨g, o, none⟩ hv) hn)).trans hv
theorem But.below {P : Nat → Prop} {w w' : World} {n : Nat} (h : But P w w') (hn : ∀ k, P k → n ≤ k) (hs : n ≤ w.heap.size) : Below n w w' := ⟨h.os, h.tape, h.output, h.size, fun k hk => h.block k (Nat.lt_of_lt_of_le hk hs) (fun e => by have := hn k e; omega)⟩
def Grew (w w' : World) (P P' : Nat → Prop) : Prop := ∀ k, P' k → P k ∨ (w.heap.size ≤ k ∧ k < w'.heap.size)
abbrev EPost (l : List Rc) (w : World) (e : Ending) (w' : World) : Prop := EdgesPost l w e w'
structure CodeG (K : World → Prop) (At : World → (Nat → Prop) → Value → Gl → Prop) : Prop where
  keepK : ∀ {w w' : World}, K w → Below w.heap.size w w' → K w'
  toK : ∀ {w : World} {P : Nat → Prop} {v : Value} {G : Gl}, At w P v G → K w
  keep : ∀ {w w' : World} {P : Nat → Prop} {v : Value} {G : Gl}, At w P v G → K w' → w.heap.size ≤ w'.heap.size → (∀ k, P k → k < w.heap.size → w'.heap[k]? = w.heap[k]?) → At w' P v G
  ptr : ∀ {w : World} {P : Nat → Prop} {v : Value} {G : Gl}, At w P v G → ∃ a, v = .pointer (some a)
  lt : ∀ {w : World} {P : Nat → Prop} {v : Value} {G : Gl}, At w P v G → ∀ k, P k → k < w.heap.size
  new : ∀ w : World, K w → Calls Tryz.prog 4 #[] w fun e w' => ∃ v P, e = .returned v ∧ At w' P v [] ∧ (∀ k, P k → w.heap.size ≤ k) ∧ Below w.heap.size w w'
  set : ∀ {w : World} {P : Nat → Prop} {v : Value} {G : Gl} (a : Pt) (l : List Rc) (A : Option Addr) (c : Nat), At w P v G → Bnd G → SrtG bfP G → l.length ≤ 12 → RAt w w.heap.size l A → (l ≠ [] → ∀ x, A = some x → ¬ P x.block) →
    Calls Tryz.prog 7 #[v, .agg #[.int .i64 a.r, .int .i64 a.c], .slice A l.length c] w fun e w' => e = .returned (.int .i64 (setR G a l).1) ∧ But P w w' ∧ ∃ P', At w' P' v (setR G a l).2 ∧ Grew w w' P P'
  edges : ∀ {w : World} {P : Nat → Prop} {v : Value} {G : Gl} (a : Pt), At w P v G → Bnd G → SrtG bfP G → Calls Tryz.prog 10 #[v, .agg #[.int .i64 a.r, .int .i64 a.c]] w (EPost (edgesG [] G a) w)
  cells : ∀ {w : World} {P : Nat → Prop} {v : Value} {G : Gl}, At w P v G → Bnd G → SrtG bfP G → Calls Tryz.prog 13 #[v] w (CellsPost (cellsL G) w)
  direct : ∀ {w : World} {P : Nat → Prop} {v : Value} {G : Gl} (l : List Pt) (A : Option Addr) (c : Nat), At w P v G → Bnd G → SrtG bfP G → l.length ≤ 100000 → Reads fP 2 w w.heap.size l A → Calls Tryz.prog 15 #[v, .slice A l.length c] w (CellsPost (directL hitP G l) w)
  reach : ∀ {w : World} {P : Nat → Prop} {v : Value} {G : Gl} (l : List Pt) (A : Option Addr) (c : Nat), At w P v G → Bnd G → SrtG bfP G → l.length ≤ 100000 → Reads fP 2 w w.heap.size l A → Calls Tryz.prog 17 #[v, .slice A l.length c] w (CellsPost (reachL hitP G l) w)
  loops : ∀ {w : World} {P : Nat → Prop} {v : Value} {G : Gl}, At w P v G → Bnd G → SrtG bfP G → Calls Tryz.prog 19 #[v] w (CellsPost (loopsL hitP G) w)
  order : ∀ {w : World} {P : Nat → Prop} {v : Value} {G : Gl} (l : List Pt) (A : Option Addr) (c : Nat), At w P v G → Bnd G → SrtG bfP G → l.length ≤ 100000 → Reads fP 2 w w.heap.size l A → Calls Tryz.prog 21 #[v, .slice A l.length c] w (CellsPost (orderL hitP G l) w)
theorem CodeG.below {At : World → (Nat → Prop) → Value → Gl → Prop} {K : World → Prop} (I : CodeG K At) {w w' : World} {P : Nat → Prop} {v : Value} {G : Gl} (h : At w P v G) (hb : Below w.heap.size w w') : At w' P v G := I.keep h (I.keepK (I.toK h) hb) hb.size fun k _ hk => hb.block k hk
end Go.Proofs.YtakamedgdiffbaaGreatDoor.GraphC
namespace Go.Proofs.YtakamedgdiffbaaGreatDoor.GraphC
set_option linter.unusedVariables false
open Go.RowKit Go.Proofs.YtakamedgdiffbaaGreatDoor.NumC Go.Proofs.YtakamedgdiffbaaGreatDoor.RowsC
open Go.Proofs.YtakamedgdiffbaaGreatDoor.RefsC (Rc RAt hitsL putL putsL OS RBox box_rat)
open Go.Proofs.YtakamedgdiffbaaGreatDoor.TreeC (Kept)
variable {K : World → Prop} {At : World → (Nat → Prop) → Value → Gl → Prop}
structure WSt (K : World → Prop) (At : World → (Nat → Prop) → Value → Gl → Prop) (w wi : World) (P : Nat → Prop) (v : Value) (G : Gl) : Prop where
  at_ : At wi P v G
  own : ∀ k, P k → w.heap.size ≤ k
  below : Below w.heap.size w wi
  bnd : Bnd G
  srt : SrtG bfP G
  kw : K w
theorem WSt.under (I : CodeG K At) {w wi wj : World} {P : Nat → Prop} {v : Value} {G : Gl} (h : WSt K At w wi P v G) (hb : Below wi.heap.size wi wj) : WSt K At w wj P v G :=
  { h with at_ := I.below h.at_ hb, below := h.below.trans (hb.mono h.below.size) }
theorem WSt.set {w wi wj : World} {P P' : Nat → Prop} {v : Value} {G : Gl} (h : WSt K At w wi P v G) (a : Pt) (l : List Rc) (hl : l.length ≤ 1000) (hb : But P wi wj) (hat : At wj P' v (setR G a l).2) (hg : Grew wi wj P P') : WSt K At w wj P' v (setR G a l).2 where
  at_ := hat
  own k hk := by
    rcases hg k hk with e | e
    · exact h.own k e
    · exact Nat.le_trans h.below.size e.1
  below := h.below.trans (hb.below h.own h.below.size)
  bnd := h.bnd.set a l hl
  srt := h.srt.setR a l
  kw := h.kw
theorem bnd_nil : Bnd [] := ⟨Nat.zero_le _, fun x h => by cases h⟩
theorem srt_nil : SrtG bfP ([] : Gl) := List.Pairwise.nil
theorem k_set1 : setR [] ⟨1, 2⟩ [⟨1, 1, 1, 1⟩] = (0, [(⟨1, 2⟩, [⟨1, 1, 1, 1⟩])]) := by kernel_rfl
theorem k_set2 : setR [(⟨1, 2⟩, [⟨1, 1, 1, 1⟩])] ⟨1, 3⟩ [⟨1, 2, 1, 2⟩] = (0, [(⟨1, 2⟩, [⟨1, 1, 1, 1⟩]), (⟨1, 3⟩, [⟨1, 2, 1, 2⟩])]) := by kernel_rfl
def wkG : Gl := [(⟨1, 2⟩, [⟨1, 1, 1, 1⟩]), (⟨1, 3⟩, [⟨1, 2, 1, 2⟩])]
theorem k_reach : reachL hitP wkG [⟨1, 1⟩] = [⟨1, 2⟩, ⟨1, 3⟩] := by kernel_rfl
theorem k_direct : directL hitP wkG [⟨1, 1⟩] = [⟨1, 2⟩] := by kernel_rfl
theorem k_loops : loopsL hitP wkG = [] := by kernel_rfl
theorem k_order : orderL hitP wkG [⟨1, 2⟩, ⟨1, 3⟩] = [⟨1, 2⟩, ⟨1, 3⟩] := by kernel_rfl
theorem k_cells : cellsL wkG = [⟨1, 2⟩, ⟨1, 3⟩] := by kernel_rfl
theorem pt_reads0 (w : World) (x : Pt) : Reads fP 2 (w.alloc (.cells #[.int .i64 x.r, .int .i64 x.c] 35)) (w.alloc (.cells #[.int .i64 x.r, .int .i64 x.c] 35)).heap.size [x] (some ⟨w.heap.size, 0, none⟩) :=
  Boxed.reads (f := fP) (ty := 35) (Boxed.new w x)
set_option maxHeartbeats 4000000 in
set_option maxRecDepth 100000 in
theorem cwakes (I : CodeG K At) (w : World) (hK : K w) : Calls Tryz.prog 6 #[] w fun e w' => e = .returned (.bool true) ∧ Below w.heap.size w w' := by
  have HI := Lib.hid I
  clear I
  go_enter Tryz.func6, Tryz.ntmps6
  go_wp2_with fail
  refine (HI.out.new w hK).mono ?_; rintro e w1 ⟨v, P, rfl, hat, hP, hb1⟩
  obtain ⟨a, rfl⟩ := HI.out.ptr hat
  have H1 := Lib.hid (show WSt K At w w1 P (.pointer (some a)) [] from ⟨hat, hP, hb1, bnd_nil, srt_nil, hK⟩)
  clear hat hP hb1 hK
  go_wp2_with fail
  refine (pCell 1 2 w1).mono ?_; rintro e w2 ⟨rfl, hb2⟩
  have H2 := Lib.hid (H1.out.under HI.out hb2)
  clear hb2 H1
  go_wp2_with fail
  refine (pOne 1 1 w2).mono ?_; rintro e w3 ⟨rfl, hb3⟩
  have H3 := Lib.hid (H2.out.under HI.out hb3)
  clear hb3 H2
  have b4 : Below w3.heap.size w3 (w3.alloc (.cells #[.int .i64 1, .int .i64 1, .int .i64 1, .int .i64 1] 51)) := (Below.refl _ _).alloc (Nat.le_refl _) _
  have H4 := Lib.hid (H3.out.under HI.out b4)
  have hcall := HI.out.set ⟨1, 2⟩ [⟨1, 1, 1, 1⟩] (some ⟨w3.heap.size, 0, none⟩) 1 H4.out.at_ H4.out.bnd H4.out.srt (by decide) (box_rat (RBox.new w3 ⟨1, 1, 1, 1⟩)) (fun _ x hx hp => by cases hx; exact Nat.lt_irrefl _ (HI.out.lt H3.out.at_ _ hp))
  rw [k_set1] at hcall
  clear b4
  go_wp2_with fail
  refine hcall.mono ?_; rintro e w5 ⟨rfl, hb5, P1, hat5, hg5⟩
  have H5 : Hid (WSt K At w w5 P1 (.pointer (some a)) [(⟨1, 2⟩, [⟨1, 1, 1, 1⟩])]) := Lib.hid (by
    have h := H4.out.set ⟨1, 2⟩ [⟨1, 1, 1, 1⟩] (by decide) hb5 (by rw [k_set1]; exact hat5) hg5
    rw [k_set1] at h; exact h)
  clear hb5 hat5 hg5 hcall H3 H4
  go_wp2_with fail
  refine (pCell 1 3 w5).mono ?_; rintro e w6 ⟨rfl, hb6⟩
  have H6 := Lib.hid (H5.out.under HI.out hb6)
  clear hb6 H5
  go_wp2_with fail
  refine (pOne 1 2 w6).mono ?_; rintro e w7 ⟨rfl, hb7⟩
  have H7 := Lib.hid (H6.out.under HI.out hb7)
  clear hb7 H6
  have b8 : Below w7.heap.size w7 (w7.alloc (.cells #[.int .i64 1, .int .i64 2, .int .i64 1, .int .i64 2] 51)) := (Below.refl _ _).alloc (Nat.le_refl _) _
  have H8 := Lib.hid (H7.out.under HI.out b8)
  have hcall := HI.out.set ⟨1, 3⟩ [⟨1, 2, 1, 2⟩] (some ⟨w7.heap.size, 0, none⟩) 1 H8.out.at_ H8.out.bnd H8.out.srt (by decide) (box_rat (RBox.new w7 ⟨1, 2, 1, 2⟩)) (fun _ x hx hp => by cases hx; exact Nat.lt_irrefl _ (HI.out.lt H7.out.at_ _ hp))
  rw [k_set2] at hcall
  clear b8
  go_wp2_with fail
  refine hcall.mono ?_; rintro e w9 ⟨rfl, hb9, P2, hat9, hg9⟩
  have H9 : Hid (WSt K At w w9 P2 (.pointer (some a)) wkG) := Lib.hid (by
    have h := H8.out.set ⟨1, 3⟩ [⟨1, 2, 1, 2⟩] (by decide) hb9 (by rw [k_set2]; exact hat9) hg9
    rw [k_set2] at h; exact h)
  clear hb9 hat9 hg9 hcall H7 H8
  go_wp2_with fail
  refine (pCell 1 1 w9).mono ?_; rintro e w10 ⟨rfl, hb10⟩
  have H10 := Lib.hid (H9.out.under HI.out hb10)
  clear hb10 H9
  have b11 : Below w10.heap.size w10 (w10.alloc (.cells #[.int .i64 1, .int .i64 1] 35)) := (Below.refl _ _).alloc (Nat.le_refl _) _
  have H11 := Lib.hid (H10.out.under HI.out b11)
  have hcall := HI.out.reach [⟨1, 1⟩] (some ⟨w10.heap.size, 0, none⟩) 1 H11.out.at_ H11.out.bnd H11.out.srt (by decide) (pt_reads0 w10 ⟨1, 1⟩)
  rw [k_reach] at hcall
  clear b11
  go_wp2_with fail
  refine hcall.mono ?_; rintro e w12 ⟨v12, rfl, ho12, hb12⟩
  obtain ⟨A12, c12, rfl, -⟩ := ho12.form
  have H12 := Lib.hid (H11.out.under HI.out hb12)
  have R12 := Lib.hid (ho12.reads kindP.row).2
  obtain ⟨g, o, rfl, -, f0, f1⟩ := Reads.pt R12.out 1 ⟨1, 3⟩ rfl
  clear ho12 hb12 hcall H10 H11
  go_wp2_with fail
  refine (pCell 1 1 w12).mono ?_; rintro e w13 ⟨rfl, hb13⟩
  have H13 := Lib.hid (H12.out.under HI.out hb13)
  have R13 := Lib.hid ((R12.out.below hb13).mono hb13.size)
  clear hb13 H12 f0 f1
  have b14 : Below w13.heap.size w13 (w13.alloc (.cells #[.int .i64 1, .int .i64 1] 35)) := (Below.refl _ _).alloc (Nat.le_refl _) _
  have H14 := Lib.hid (H13.out.under HI.out b14)
  have R14 := Lib.hid ((R13.out.below b14).mono b14.size)
  have hcall := HI.out.direct [⟨1, 1⟩] (some ⟨w13.heap.size, 0, none⟩) 1 H14.out.at_ H14.out.bnd H14.out.srt (by decide) (pt_reads0 w13 ⟨1, 1⟩)
  rw [k_direct] at hcall
  clear b14
  go_wp2_with fail
  refine hcall.mono ?_; rintro e w15 ⟨v15, rfl, ho15, hb15⟩
  obtain ⟨A15, c15, rfl, -⟩ := ho15.form
  have H15 := Lib.hid (H14.out.under HI.out hb15)
  have R15 := Lib.hid ((R14.out.below hb15).mono hb15.size)
  clear ho15 hb15 hcall H13 H14 R14 R13
  have hcall := HI.out.loops H15.out.at_ H15.out.bnd H15.out.srt
  rw [k_loops] at hcall
  go_wp2_with fail
  refine hcall.mono ?_; rintro e w16 ⟨v16, rfl, ho16, hb16⟩
  obtain ⟨A16, c16, rfl, -⟩ := ho16.form
  have H16 := Lib.hid (H15.out.under HI.out hb16)
  have R16 := Lib.hid ((R15.out.below hb16).mono hb16.size)
  clear ho16 hb16 hcall H15 R15
  have hcall := HI.out.order [⟨1, 2⟩, ⟨1, 3⟩] (some ⟨g, o, none⟩) c12 H16.out.at_ H16.out.bnd H16.out.srt (by decide) R16.out
  rw [k_order] at hcall
  go_wp2_with fail
  refine hcall.mono ?_; rintro e w17 ⟨v17, rfl, ho17, hb17⟩
  obtain ⟨A17, c17, rfl, -⟩ := ho17.form
  have H17 := Lib.hid (H16.out.under HI.out hb17)
  clear ho17 hb17 hcall H16 R16
  have hcall := HI.out.cells H17.out.at_ H17.out.bnd H17.out.srt
  rw [k_cells] at hcall
  go_wp2_with fail
  refine hcall.mono ?_; rintro e w18 ⟨v18, rfl, ho18, hb18⟩
  obtain ⟨A18, c18, rfl, -⟩ := ho18.form
  have H18 := Lib.hid (H17.out.under HI.out hb18)
  clear ho18 hb18 hcall H17
  go_wp2_with fail
  go_ret
  exact ⟨rfl, H18.out.below⟩
end Go.Proofs.YtakamedgdiffbaaGreatDoor.GraphC
namespace Go.Proofs.YtakamedgdiffbaaGreatDoor.GraphC
set_option linter.unusedVariables false
open Go.RowKit Go.Proofs.YtakamedgdiffbaaGreatDoor.NumC Go.Proofs.YtakamedgdiffbaaGreatDoor.RowsC
open Go.Proofs.YtakamedgdiffbaaGreatDoor.RefsC (Rc RAt hitsL putL putsL OS RBox box_rat)
structure StepsAt (w : World) (B : Nat) (ts : List Tp) (L : Gl) (A : Option Addr) : Prop where
  row : Reads fT 3 w B ts A
  len : ts.length = L.length
  is : ∀ (i : Nat) (t : Tp) (x : Pt × List Rc), ts[i]? = some t → L[i]? = some x → x.1 = ⟨t.r, t.c⟩ ∧ t.n = x.2.length ∧ RAt w B x.2 t.A
theorem StepsAt.below {w w' : World} {B : Nat} {ts : List Tp} {L : Gl} {A : Option Addr} (h : StepsAt w B ts L A) (hb : Below B w w') : StepsAt w' B ts L A :=
  ⟨h.row.below hb, h.len, fun i t x ht hx => by
    obtain ⟨h1, h2, h3⟩ := h.is i t x ht hx
    exact ⟨h1, h2, h3.below hb⟩⟩
theorem StepsAt.nth {w : World} {B : Nat} {ts : List Tp} {L : Gl} {A : Option Addr} (h : StepsAt w B ts L A) (i : Nat) (x : Pt × List Rc) (hx : L[i]? = some x) :
    ∃ g o E k, A = some ⟨g, o, none⟩ ∧ g < B ∧ w.cell? ⟨g, o + i * 3, none⟩ = some (.int .i64 x.1.r) ∧ w.cell? ⟨g, o + i * 3 + 1, none⟩ = some (.int .i64 x.1.c) ∧ w.cell? ⟨g, o + i * 3 + 2, none⟩ = some (.slice E x.2.length k) ∧ RAt w B x.2 E := by
  have hi : i < ts.length := by rw [h.len]; exact (List.getElem?_eq_some_iff.1 hx).1
  obtain ⟨t, ht⟩ := RowsC.at_some ts i hi
  obtain ⟨g, o, e, hg, hc⟩ := h.row.nth i t ht
  obtain ⟨e1, e2, hr⟩ := h.is i t x ht hx
  exact ⟨g, o, t.A, t.k, e, hg, by rw [e1]; exact hc 0 _ rfl, by rw [e1]; exact hc 1 _ rfl, by rw [← e2]; exact hc 2 _ rfl, hr⟩
def fairB (L : Gl) : Bool := L.all (fun s => decide (s.2.length ≤ 10)) && decide (L.length ≤ 40)
theorem fair_of {L : Gl} (h : fairB L = true) : L.length ≤ 40 ∧ ∀ x, x ∈ L → x.2.length ≤ 10 := by
  unfold fairB at h
  rw [Bool.and_eq_true, List.all_eq_true, decide_eq_true_eq] at h
  exact ⟨h.2, fun x hx => of_decide_eq_true (h.1 x hx)⟩
set_option maxHeartbeats 1000000 in
set_option maxRecDepth 100000 in
theorem pfair (ts : List Tp) (L : Gl) (A : Option Addr) (c : Nat) (w : World) (hl : L.length ≤ 9223372036854775807) (h : StepsAt w w.heap.size ts L A) :
    Calls Tryz.prog 5 #[.slice A L.length c] w fun e w' => e = .returned (.bool (fairB L)) ∧ Below w.heap.size w w' := by
  have H := Lib.hid h
  clear h
  go_enter Tryz.func5, Tryz.ntmps5
  go_wp2_with fail
  go_loopw [3] (fun iv wr => ∃ j : Nat, j ≤ L.length ∧ iv = .int .i64 j ∧ Hid (Below w.heap.size w wr ∧ (L.take j).all (fun s => decide (s.2.length ≤ 10)) = true)) (fun iv _ => L.length - (intOf iv).toNat)
  case atStart => exact ⟨0, Nat.zero_le _, rfl, Lib.hid ⟨Below.refl _ _, rfl⟩⟩
  case round =>
    obtain ⟨j, hk, rfl, HR2⟩ := hrel
    obtain ⟨hb, hn⟩ := HR2.out
    have HB := Lib.hid hb
    by_cases hj : j < L.length
    · have hd1 : (j : Int) < (L.length : Int) := by omega
      obtain ⟨x, hx⟩ := RowsC.at_some L j hj
      obtain ⟨g, o, E, k, rfl, hg, c1, c2, c3, hr⟩ := (H.out.below hb).nth j x hx
      have HN := Lib.hid hn
      have HX := Lib.hid hx
      clear hn hx hr HR2 hb
      by_cases h10 : 10 < x.2.length
      · have hd2 : (10 : Int) < (x.2.length : Int) := by omega
        have HF : Hid (fairB L = false) := Lib.hid (by
          unfold fairB
          rw [Bool.and_eq_false_iff]
          left
          rw [List.all_eq_false]
          exact ⟨x, List.mem_of_getElem? HX.out, by simp; omega⟩)
        go_wp2_with fail
        go_ret
        exact ⟨ret1 HF.out.symm, HB.out⟩
      · have hd2 : ¬ (10 : Int) < (x.2.length : Int) := by omega
        go_wp2_with fail
        go_roundw
        case rel => exact ⟨j + 1, by omega, by go_num, Lib.hid ⟨HB.out, by rw [List.take_add_one, HX.out, List.all_append, HN.out]; simp; omega⟩⟩
        case measure => simp [intOf]; omega
    · have hd1 : ¬ (j : Int) < (L.length : Int) := by omega
      obtain rfl : j = L.length := by omega
      rw [List.take_length] at hn
      by_cases h40 : L.length ≤ 40
      · have hd2 : (L.length : Int) ≤ 40 := by omega
        have HF : Hid (fairB L = true) := Lib.hid (by unfold fairB; rw [hn, decide_eq_true h40]; rfl)
        clear hn HR2 hb
        go_wp2_with fail
        go_ret
        exact ⟨ret1 HF.out.symm, HB.out⟩
      · have hd2 : ¬ (L.length : Int) ≤ 40 := by omega
        have HF : Hid (fairB L = false) := Lib.hid (by unfold fairB; rw [hn, decide_eq_false h40]; rfl)
        clear hn HR2 hb
        go_wp2_with fail
        go_ret
        exact ⟨ret1 HF.out.symm, HB.out⟩
def setsG (L : Gl) : Gl := L.foldl (fun G s => (setR G s.1 s.2).2) []
theorem sets_step {L : Gl} {j : Nat} {x : Pt × List Rc} (hx : L[j]? = some x) : setsG (L.take (j + 1)) = (setR (setsG (L.take j)) x.1 x.2).2 := by
  unfold setsG
  rw [List.take_add_one, hx, List.foldl_append]; rfl
end Go.Proofs.YtakamedgdiffbaaGreatDoor.GraphC
namespace Go.Proofs.YtakamedgdiffbaaGreatDoor.GraphC
set_option linter.unusedVariables false
open Go.RowKit Go.Proofs.YtakamedgdiffbaaGreatDoor.NumC Go.Proofs.YtakamedgdiffbaaGreatDoor.RowsC
open Go.Proofs.YtakamedgdiffbaaGreatDoor.RefsC (Rc RAt hitsL putL putsL OS RPost)
open Go.Proofs.YtakamedgdiffbaaGreatDoor.AddrC (cellB fineB beforeB)
open Go.Proofs.YtakamedgdiffbaaGreatDoor.TreeC (Kept)
theorem below_al {V w : World} (h : Below V.heap.size V w) (o : Obj) : Below V.heap.size V (w.alloc o) := h.alloc h.size o
theorem owns_form {α : Type} {f : α → List Value} {n : Nat} {ty : TypeId} {w : World} {B : Nat} {v : Value} {l : List α} (h : Owns f n ty w B v l) : ∃ A m c, v = .slice A m c := by
  obtain ⟨A, c, e, -⟩ := h.form
  exact ⟨A, _, c, e⟩
theorem set_bad {G : Gl} {a : Pt} {l : List Rc} (h : cellB a.r a.c = false) : setR G a l = (15, G) := if_pos h
theorem set_rect {G : Gl} {a : Pt} {l : List Rc} (h : cellB a.r a.c = true) (k : l.all fineX = false) : setR G a l = (15, G) := by unfold setR; rw [if_neg (by rw [h]; decide), if_pos k]
theorem set_on {G : Gl} {a : Pt} {l : List Rc} (h : cellB a.r a.c = true) (k : l.all fineX = true) : setR G a l = if putsL [] l = [] then (0, lessG G a) else if 1000 ≤ (lessG G a).length then (3, G) else (0, putG bfP (lessG G a) (a, putsL [] l)) := by
  unfold setR; rw [if_neg (by rw [h]; decide), if_neg (by rw [k]; decide)]
set_option maxHeartbeats 4000000 in
set_option maxRecDepth 100000 in
theorem rSet {FP : Nat → Prop} (b : Nat) (G : Gl) (a : Pt) (l : List Rc) (A : Option Addr) (c : Nat) (w : World) (hb : Bnd G) (hl : l.length ≤ 1000) (hG : GSt w FP b G) (hL : RAt w w.heap.size l A) :
    Calls Tryz.prog 8 #[.pointer (some ⟨b, 0, none⟩), .agg #[.int .i64 a.r, .int .i64 a.c], .slice A l.length c] w (SetPost FP b (setR G a l) w) := by
  have bW : Below w.heap.size w (w.alloc (.cells #[.int .i64 a.r, .int .i64 a.c] 35)) := (Below.refl _ w).alloc (Nat.le_refl _) _
  have hs : w.heap.size < (w.alloc (.cells #[.int .i64 a.r, .int .i64 a.c] 35)).heap.size := by simp
  have hX : Boxed fP 35 (w.alloc (.cells #[.int .i64 a.r, .int .i64 a.c] 35)) w.heap.size a := Boxed.new w a
  have x0 := hX.cells 0 _ rfl
  have x1 := hX.cells 1 _ rfl
  have HG := Lib.hid hG
  have HL := Lib.hid hL
  have hg1 := hb.1
  have hlt := hG.lt
  clear hL hG
  go_enter Tryz.func8, Tryz.ntmps8
  go_wp2_with fail
  generalize (w.alloc (.cells #[.int .i64 a.r, .int .i64 a.c] 35)) = W at *
  have HBW := Lib.hid bW
  have HX := Lib.hid hX
  clear bW hX
  refine (AddrC.rgood a.r a.c W).mono ?_; rintro e w1 ⟨rfl, hb1⟩
  have HB1 := Lib.hid hb1
  clear hb1 x0 x1
  cases hcg : cellB a.r a.c
  · have HF : Hid (SetPost FP b (setR G a l) w (.returned (.int .i64 15)) w1) := Lib.hid (by
      rw [set_bad hcg]
      have h := HBW.out.trans (HB1.out.mono HBW.out.size)
      exact ⟨rfl, (HG.out.below h).mono (fun k h => Or.inl h), Kept.of h⟩)
    clear hcg
    go_wp2_with fail
    go_ret
    exact HF.out
  · have HCG := Lib.hid hcg
    clear hcg
    go_wp2_with fail
    go_loopw [7, 8] (fun ev iv wr => ∃ i : Nat, i ≤ l.length ∧ iv = .int .i64 i ∧ Hid (Below W.heap.size W wr ∧ OS wr W.heap.size ev (putsL [] (l.take i)) ∧ (l.take i).all fineX = true)) (fun _ iv _ => l.length - (intOf iv).toNat)
    case atStart => exact ⟨0, Nat.zero_le _, rfl, Lib.hid ⟨HB1.out, RefsC.OS.nil _ _, rfl⟩⟩
    case round =>
      obtain ⟨i, hi0, rfl, HR2⟩ := hrel
      obtain ⟨hbw, ho, hf⟩ := HR2.out
      obtain ⟨eA, ec, rfl⟩ := ho.form
      by_cases hi : i < l.length
      · have hd1 : (i : Int) < (l.length : Int) := by omega
        obtain ⟨x, hx⟩ := RefsC.nth_some l i hi
        have hbwW := HBW.out.trans (hbw.mono HBW.out.size)
        obtain ⟨g, o, rfl, hg0, c0, c1, c2, c3⟩ := (HL.out.below hbwW).nth i x hx
        have HB := Lib.hid hbw
        have HO := Lib.hid ho
        have HN := Lib.hid hf
        have HY := Lib.hid hx
        clear hbw ho hf hx hbwW HR2
        go_wp2_with fail
        refine (AddrC.rfine x.a x.b x.c x.d wr).mono ?_; rintro e w2 ⟨rfl, hb2⟩
        have HB2 := Lib.hid (HB.out.trans (hb2.mono HB.out.size))
        have hbwW := HBW.out.trans (HB2.out.mono HBW.out.size)
        obtain ⟨g9, o9, e9, -, d0, d1, d2, d3⟩ := (HL.out.below hbwW).nth i x HY.out
        obtain ⟨e91, e92⟩ : g9 = g ∧ o9 = o := by injection e9 with e9; injection e9 with e1 e2; exact ⟨e1.symm, e2.symm⟩
        subst e91 e92
        have HO2 := Lib.hid (HO.out.below hb2)
        have hs2 := HB2.out.size
        have HQ : Hid (fineB x.a x.b x.c x.d = fineX x) := Lib.hid rfl
        clear hb2 c0 c1 c2 c3 e9 hbwW HO HB
        rw [HQ.out]
        cases hfx : fineX x
        · have HF : Hid (SetPost FP b (setR G a l) w (.returned (.int .i64 15)) w2) := Lib.hid (by
            rw [set_rect HCG.out (by
              rw [List.all_eq_false]
              exact ⟨x, List.mem_of_getElem? HY.out, by rw [hfx]; decide⟩)]
            have h := HBW.out.trans (HB2.out.mono HBW.out.size)
            exact ⟨rfl, (HG.out.below h).mono (fun k h => Or.inl h), Kept.of h⟩)
          clear hfx d0 d1 d2 d3
          go_wp2_with fail
          go_ret
          exact HF.out
        · have HFX := Lib.hid hfx
          have hpl := puts_len (l.take i) []
          have hcall := RefsC.rPut W.heap.size _ (putsL [] (l.take i)) x w2 (by rw [List.length_take] at hpl; simp at hpl; omega) HO2.out hs2
          clear hfx hpl
          go_wp2_with fail
          refine hcall.mono ?_; rintro e w3 ⟨v3, rfl, ho3, hb3, -⟩
          have HD : Hid (Below W.heap.size W w3 ∧ OS w3 W.heap.size v3 (putsL [] (l.take (i + 1))) ∧ (l.take (i + 1)).all fineX = true) := Lib.hid ⟨HB2.out.trans (hb3.mono hs2), by rw [puts_step HY.out]; exact ho3, by
            rw [List.take_add_one, HY.out, List.all_append, HN.out]; simp [HFX.out]⟩
          clear hcall ho3 hb3 d0 d1 d2 d3
          go_wp2_with fail
          go_roundw
          case rel => exact ⟨i + 1, by omega, by go_num, HD⟩
          case measure => simp [intOf]; omega
      · have hd1 : ¬ (i : Int) < (l.length : Int) := by omega
        obtain rfl : i = l.length := by omega
        rw [List.take_length] at ho hf
        have hvW := HBW.out.trans (hbw.mono HBW.out.size)
        have hGV := HG.out.below hvW
        have hXV := HX.out.below hbw hs
        have hbV : b < wr.heap.size := hGV.lt
        have haV : w.heap.size < wr.heap.size := hXV.lt
        have HON := Lib.hid (set_on (G := G) HCG.out hf)
        have hpl := puts_len l []
        simp only [List.length_nil, Nat.zero_add] at hpl
        obtain ⟨GA, gc, q0, hat⟩ := hGV.form
        have HVW := Lib.hid hvW
        have HGV := Lib.hid hGV
        have HXV := Lib.hid hXV
        have HE := Lib.hid ho
        have HAT := Lib.hid hat
        generalize wr = V at *
        clear hvW hGV hXV hbw ho hf HR2 hat
        go_wp2_with fail
        go_loopw [9, 10] (fun ov iv wr => ∃ j : Nat, j ≤ G.length ∧ iv = .int .i64 j ∧ Hid (Below V.heap.size V wr ∧ ∃ ts, Owns fT 3 60 wr V.heap.size ov ts ∧ Ties V (NewP FP w) ts (lessG (G.take j) a))) (fun _ iv _ => G.length - (intOf iv).toNat)
        case atStart => exact ⟨0, Nat.zero_le _, rfl, Lib.hid ⟨Below.refl _ _, [], Owns.nil _ _, Ties.nil _ _⟩⟩
        case round =>
          obtain ⟨j, hj0, rfl, HR2⟩ := hrel
          obtain ⟨hbw, ts, ho, ht⟩ := HR2.out
          obtain ⟨oA, oc, rfl, hoc, hon, hoa⟩ := ho.form
          have q1 : wr.cell? ⟨b, 0, none⟩ = some (.slice GA G.length gc) := (hbw.cell (p := ⟨b, 0, none⟩) hbV).trans q0
          have hX2 := HXV.out.below hbw haV
          have x0 := hX2.cells 0 _ rfl
          have x1 := hX2.cells 1 _ rfl
          have hsz := hbw.size
          have hts := less_len (G.take j) a
          rw [List.length_take] at hts
          have htl := ht.1
          by_cases hj : j < G.length
          · have hd2 : (j : Int) < (G.length : Int) := by omega
            obtain ⟨x, hx⟩ := RowsC.at_some G j hj
            obtain ⟨g, o, E, k, rfl, c1, c2, c3, hr⟩ := HAT.out j x hx
            have gg : g < V.heap.size := World.block_lt_of_cell? V ⟨g, o + j * 3, none⟩ c1
            have f1 : wr.cell? ⟨g, o + j * 3, none⟩ = _ := (hbw.cell (p := ⟨g, _, none⟩) gg).trans c1
            have f2 : wr.cell? ⟨g, o + j * 3 + 1, none⟩ = _ := (hbw.cell (p := ⟨g, _, none⟩) gg).trans c2
            have f3 : wr.cell? ⟨g, o + j * 3 + 2, none⟩ = _ := (hbw.cell (p := ⟨g, _, none⟩) gg).trans c3
            have hst := less_step hx a
            have eN := neqP x.1 a
            have HB := Lib.hid hbw
            have HO := Lib.hid ho
            have HT := Lib.hid ht
            have HRX : Hid (Ties V (NewP FP w) [⟨x.1.r, x.1.c, E, x.2.length, k⟩] [x]) := Lib.hid (Ties.one rfl rfl hr (fun hne e9 he9 => Or.inl (HGV.out.foot q0 c3 hx hne e9 he9)))
            clear hbw ho ht hx hX2 hr HR2 c1 c2 c3 q0
            cases hxa : decide (x.1 = a)
            · rw [hxa] at eN hst
              rw [if_pos (show (!false) = true from rfl)] at hst
              have HS := Lib.hid hst
              clear hxa hst
              go_wp2_with fail
              go_quiet (fail)
              have hlen : ts.length + 1 ≤ 100000000 := by omega
              go_wp2_with (at_builtin
                           refine wpList_append_owns kindT _ rfl (.tmp 52) (.tmp 60) rfl (m := [⟨x.1.r, x.1.c, E, x.2.length, k⟩]) (l := ts) (B := V.heap.size) (M := wr.heap.size + 1) rfl rfl rfl ?ho ?hr hlen ?hB ?_
                           case ho => exact HO.out.below (((below_drewN' (Below.refl _ _) _).alloc (Nat.le_refl _) _))
                           case hr => exact Reads.eq (Boxed.reads (n := 3) (Boxed.new (f := fT) (ty := 60) (World.drewN wr _) ⟨x.1.r, x.1.c, E, x.2.length, k⟩)) (by rw [World.size_alloc]; rfl) rfl
                           case hB => rw [World.size_alloc]; exact Nat.le_succ_of_le hsz
                           intro v' w' ho' hg' hat'
                           have HD : Hid (Below V.heap.size V w' ∧ ∃ ts', Owns fT 3 60 w' V.heap.size v' ts' ∧ Ties V (NewP FP w) ts' (lessG (G.take (j + 1)) a)) := Lib.hid ⟨below_grown (((below_drewN' HB.out _).alloc hsz _)) (by rw [World.size_alloc]; exact Nat.le_succ_of_le hsz) hg' (fun i hi => (HO.out.lt i hi).1), _, ho', by rw [HS.out]; exact HT.out.app HRX.out⟩
                           clear ho' hg' hat')
              go_roundw
              case rel => exact ⟨j + 1, by omega, by go_num, HD⟩
              case measure => simp [intOf]; omega
            · rw [hxa] at eN hst
              rw [if_neg (by decide)] at hst
              have HS := Lib.hid hst
              clear hxa hst
              go_wp2_with fail
              go_quiet (fail)
              go_wp2_with fail
              go_roundw
              case rel => exact ⟨j + 1, by omega, by go_num, Lib.hid ⟨below_drewN' HB.out _, ts, HO.out.below ⟨rfl, rfl, rfl, Nat.le_refl _, fun _ _ => rfl⟩, by rw [HS.out]; exact HT.out⟩⟩
              case measure => simp [intOf]; omega
          · have hd2 : ¬ (j : Int) < (G.length : Int) := by omega
            obtain rfl : j = G.length := by omega
            rw [List.take_length] at ht
            have HTL : Hid (ts.length = (lessG G a).length) := Lib.hid ht.1
            have htb : ts.length ≤ 1000 := by
              have := less_len G a
              have := HTL.out
              omega
            clear htl hts
            have hvw := HVW.out.trans (hbw.mono HVW.out.size)
            have q2 := (HG.out.below hvw).frozen
            by_cases hes : putsL [] l = []
            · have hd3 : ((putsL [] l).length : Int) = 0 := by rw [hes]; rfl
              have HF : Hid (SetPost FP b (setR G a l) w (.returned (.int .i64 0)) (wr.setCell ⟨b, 0, none⟩ (.slice oA ts.length oc))) := Lib.hid (by
                rw [HON.out, if_pos hes]
                obtain ⟨h1, h2⟩ := GSt.store hvw HG.out ho (Nat.le_of_lt haV) (ht.below hbw)
                exact ⟨rfl, h1, h2⟩)
              have hd4 : ¬ (0 : Int) < ((putsL [] l).length : Int) := by omega
              clear hvw hbw ho ht hX2 HR2 x0 x1 q0
              go_wp2_with fail
              go_ret
              exact HF.out
            · have hd3 : (0 : Int) < ((putsL [] l).length : Int) := by
                have := List.length_pos_iff.2 hes
                omega
              by_cases hmany : 1000 ≤ ts.length
              · have hd4 : (1000 : Int) ≤ (ts.length : Int) := by omega
                have HF : Hid (SetPost FP b (setR G a l) w (.returned (.int .i64 3)) wr) := Lib.hid (by
                  rw [HON.out, if_neg hes, if_pos (by rw [← HTL.out]; exact hmany)]
                  exact ⟨rfl, (HG.out.below hvw).mono (fun k h => Or.inl h), Kept.of hvw⟩)
                clear hvw hbw ho ht hX2 HR2 x0 x1 q0
                go_wp2_with fail
                go_ret
                exact HF.out
              · have hd4 : ¬ (1000 : Int) ≤ (ts.length : Int) := by omega
                have HOU := Lib.hid ho
                have HTU := Lib.hid ht
                have HBU := Lib.hid hbw
                have HXU := Lib.hid hX2
                have hUa : w.heap.size < wr.heap.size := hX2.lt
                have hUr := (ho.reads kindT.row).2
                have HES := Lib.hid hes
                have HRU := Lib.hid hUr
                have hVU := hbw.size
                generalize wr = U at *
                clear hvw hbw ho ht hX2 HR2 x0 x1 q0 hUr hes
                go_wp2_with fail
                go_loopw [11] (fun kv wr => ∃ k : Nat, k ≤ ts.length ∧ kv = .int .i64 k ∧ Hid (Below U.heap.size U wr ∧ ∀ (i : Nat) (x : Pt × List Rc), i < k → (lessG G a)[i]? = some x → bfP x.1 a = true)) (fun kv _ => ts.length - (intOf kv).toNat)
                case atStart => exact ⟨0, Nat.zero_le _, rfl, Lib.hid ⟨Below.refl _ _, fun i x h => absurd h (Nat.not_lt_zero _)⟩⟩
                case round =>
                  obtain ⟨k, hk0, rfl, HR2⟩ := hrel
                  obtain ⟨hbw, hn⟩ := HR2.out
                  have hX3 := HXU.out.below hbw hUa
                  have x0 := hX3.cells 0 _ rfl
                  have x1 := hX3.cells 1 _ rfl
                  have hsz3 := hbw.size
                  by_cases hk : k < ts.length
                  · have hd5 : (k : Int) < (ts.length : Int) := by omega
                    obtain ⟨t, ht⟩ := RowsC.at_some ts k hk
                    obtain ⟨x, hx⟩ := RowsC.at_some (lessG G a) k (by rw [← HTL.out]; exact hk)
                    obtain ⟨g, o, rfl, gg, hc⟩ := HRU.out.nth k t ht
                    have c0 : wr.cell? ⟨g, o + k * 3, none⟩ = some (.int .i64 t.r) := (hbw.cell (p := ⟨g, _, none⟩) gg).trans (hc 0 _ rfl)
                    have c1 : wr.cell? ⟨g, o + k * 3 + 1, none⟩ = some (.int .i64 t.c) := (hbw.cell (p := ⟨g, _, none⟩) gg).trans (hc 1 _ rfl)
                    have HTX : Hid (x.1 = ⟨t.r, t.c⟩) := Lib.hid (HTU.out.2 k t x ht hx).1
                    have HB := Lib.hid hbw
                    have HN := Lib.hid hn
                    have HX3 := Lib.hid hx
                    clear hbw hn hx ht hX3 HR2 hc
                    go_wp2_with fail
                    refine region_tail 11 (by kernel_rfl) (by kernel_rfl) ?_
                    simp only [List.take_succ_cons, List.take_zero, List.drop_succ_cons, List.drop_zero]
                    replace x0 : wr.drew.cell? ⟨w.heap.size, 0, none⟩ = some (.int .i64 a.r) := x0
                    replace x1 : wr.drew.cell? ⟨w.heap.size, 1, none⟩ = some (.int .i64 a.c) := x1
                    replace c0 : wr.drew.cell? ⟨g, o + k * 3, none⟩ = some (.int .i64 t.r) := c0
                    replace c1 : wr.drew.cell? ⟨g, o + k * 3 + 1, none⟩ = some (.int .i64 t.c) := c1
                    replace HB : Hid (Below U.heap.size U wr.drew) := Lib.hid (below_d HB.out)
                    generalize wr.drew = V9 at *
                    iterate 11 still_step
                    refine wpStill_nil ?_
                    go_wp2_with fail
                    refine (AddrC.rbefore t.r t.c a.r a.c _).mono ?_; rintro e w5 ⟨rfl, hb5⟩
                    have HB5 := Lib.hid (HB.out.trans (hb5.mono HB.out.size))
                    have HQ : Hid (beforeB t.r t.c a.r a.c = bfP x.1 a) := Lib.hid (by rw [HTX.out]; rfl)
                    clear hb5 c0 c1 x0 x1
                    rw [HQ.out]
                    cases hbx : bfP x.1 a
                    · have HBX := Lib.hid hbx
                      clear hbx
                      have hX5 := HXU.out.below HB5.out hUa
                      have hk2 : (k : Int) ≤ (ts.length : Int) := by omega
                      have hk3 : (k : Int) ≤ (oc : Int) := by omega
                      have hk4 : (0 : Int) ≤ (k : Int) := by omega
                      have hkc : ¬ oc = k := by omega
                      have h59 := hX5.lt
                      have HK := Lib.hid (show ∀ Z : World, Below w5.heap.size w5 Z → Z.cell? ⟨w.heap.size, 0, none⟩ = some (.int .i64 a.r) ∧ Z.cell? ⟨w.heap.size, 1, none⟩ = some (.int .i64 a.c) from fun Z h => ⟨(hX5.below h h59).cells 0 _ rfl, (hX5.below h h59).cells 1 _ rfl⟩)
                      have hkl : (ts.take k).length = k := by rw [List.length_take, Nat.min_eq_left (by omega)]
                      have hdl : (ts.drop k).length = ts.length - k := List.length_drop ..
                      have hln1 : ([] : List Tp).length + (ts.take k).length ≤ 100000000 := by simp; omega
                      have hln2 : ([] ++ ts.take k).length + 1 ≤ 100000000 := by simp; omega
                      have hln3 : ([] ++ ts.take k ++ [(⟨a.r, a.c, eA, (putsL [] l).length, ec⟩ : Tp)]).length + (ts.drop k).length ≤ 100000000 := by simp; omega
                      have hR5 := (HRU.out.below HB5.out).mono HB5.out.size
                      have R5 := Lib.hid (hR5.take k)
                      have R6 := Lib.hid (hR5.drop k)
                      clear hX5 hR5
                      have HFIN : Hid (∀ (Z : World) (A' : Option Addr) (n' c' : Nat), Below w5.heap.size w5 Z → Owns fT 3 60 Z w5.heap.size (.slice A' n' c') ([] ++ ts.take k ++ [(⟨a.r, a.c, eA, (putsL [] l).length, ec⟩ : Tp)] ++ ts.drop k) → ((∃ zv, Z.cell? ⟨b, 0, none⟩ = some zv) ∧ Z.frozen? ⟨b, 0, none⟩ = false) ∧ SetPost FP b (setR G a l) w (.returned (.int .i64 0)) (Z.setCell ⟨b, 0, none⟩ (.slice A' n' c'))) := Lib.hid fun Z A' n' c' hbz hoz => by
                        have b1 : Below V.heap.size V Z := HBU.out.trans ((HB5.out.mono HBU.out.size).trans (hbz.mono (Nat.le_trans HBU.out.size HB5.out.size)))
                        have b2 : Below w.heap.size w Z := HVW.out.trans (b1.mono HVW.out.size)
                        have hgz := HG.out.below b2
                        refine ⟨⟨by obtain ⟨A9, c9, z0, -⟩ := hgz.form; exact ⟨_, z0⟩, hgz.frozen⟩, ?_⟩
                        have hah : aheadG bfP (lessG G a) a = k := ahead_at (by rw [← HTL.out]; exact hk0) HN.out (Or.inr ⟨x, HX3.out, HBX.out⟩)
                        have hput : putG bfP (lessG G a) (a, putsL [] l) = (lessG G a).take k ++ [(a, putsL [] l)] ++ (lessG G a).drop k := by
                          unfold putG
                          show (lessG G a).take (aheadG bfP (lessG G a) a) ++ (a, putsL [] l) :: (lessG G a).drop (aheadG bfP (lessG G a) a) = _
                          rw [hah, List.append_assoc]; rfl
                        have hrat : RAt Z Z.heap.size (putsL [] l) eA := ((RefsC.OS.rat HE.out).2.below b1).mono b1.size
                        have hties : Ties Z (NewP FP w) ([] ++ ts.take k ++ [(⟨a.r, a.c, eA, (putsL [] l).length, ec⟩ : Tp)] ++ ts.drop k) ((lessG G a).take k ++ [(a, putsL [] l)] ++ (lessG G a).drop k) := by
                          rw [List.nil_append]
                          exact (((HTU.out.below b1).take k).app (Ties.one rfl rfl hrat (fun hne e9 he9 => Or.inr (Nat.le_trans HBW.out.size (RefsC.OS.lt HE.out e9.block (by rw [show eA = some e9 from he9]; rfl)).1)))).app ((HTU.out.below b1).drop k)
                        obtain ⟨h1, h2⟩ := GSt.store b2 HG.out hoz (Nat.le_trans HVW.out.size (Nat.le_trans HBU.out.size HB5.out.size)) hties
                        rw [HON.out, if_neg HES.out, if_neg (by rw [← HTL.out]; exact hmany), hput]
                        exact ⟨rfl, h1, h2⟩
                      go_wp2_with fail
                      have E1 := Lib.hid (show Owns fT 3 60 (w5.alloc (.cells #[] 60)).drew w5.heap.size (.slice (some ⟨w5.heap.size, 0, none⟩) 0 0) [] from Owns.empty w5 _ (Nat.le_refl _))
                      have E2 := Lib.hid (show Owns fT 3 60 ((w5.alloc (.cells #[] 60)).alloc (.cells #[.int .i64 a.r, .int .i64 a.c, .slice eA (putsL [] l).length ec] 60)).drew w5.heap.size (.slice (some ⟨w5.heap.size, 0, none⟩) 0 0) [] from (Owns.empty (f := fT) (n := 3) (ty := 60) w5 _ (Nat.le_refl _)).below (below_d ((Below.refl _ _).alloc (Nat.le_refl _) _)))
                      have E3 := Lib.hid (show Owns fT 3 60 ((w5.alloc (.cells #[.int .i64 a.r, .int .i64 a.c, .slice eA (putsL [] l).length ec] 60)).alloc (.cells #[] 60)).drew w5.heap.size (.slice (some ⟨w5.heap.size + 1, 0, none⟩) 0 0) [] from by
                        have h := Owns.empty (f := fT) (n := 3) (ty := 60) (w5.alloc (.cells #[.int .i64 a.r, .int .i64 a.c, .slice eA (putsL [] l).length ec] 60)) w5.heap.size (by rw [World.size_alloc]; omega)
                        rw [World.size_alloc] at h
                        exact h)
                      have X2 := Lib.hid (show Boxed fT 60 ((w5.alloc (.cells #[] 60)).alloc (.cells #[.int .i64 a.r, .int .i64 a.c, .slice eA (putsL [] l).length ec] 60)).drew (w5.heap.size + 1) (⟨a.r, a.c, eA, (putsL [] l).length, ec⟩ : Tp) from by
                        have h := Boxed.new (f := fT) (ty := 60) (w5.alloc (.cells #[] 60)) (⟨a.r, a.c, eA, (putsL [] l).length, ec⟩ : Tp)
                        rw [World.size_alloc] at h
                        exact h)
                      have X3 := Lib.hid (show Boxed fT 60 ((w5.alloc (.cells #[.int .i64 a.r, .int .i64 a.c, .slice eA (putsL [] l).length ec] 60)).alloc (.cells #[] 60)).drew w5.heap.size (⟨a.r, a.c, eA, (putsL [] l).length, ec⟩ : Tp) from (Boxed.new (f := fT) (ty := 60) w5 (⟨a.r, a.c, eA, (putsL [] l).length, ec⟩ : Tp)).below (below_d ((Below.refl _ _).alloc (Nat.le_refl _) _)) (by rw [World.size_alloc]; omega))
                      have b2 := Lib.hid (show Below w5.heap.size w5 ((w5.alloc (.cells #[] 60)).alloc (.cells #[.int .i64 a.r, .int .i64 a.c, .slice eA (putsL [] l).length ec] 60)).drew from below_d (below_al (below_al (Below.refl _ _) _) _))
                      have b3 := Lib.hid (show Below w5.heap.size w5 ((w5.alloc (.cells #[.int .i64 a.r, .int .i64 a.c, .slice eA (putsL [] l).length ec] 60)).alloc (.cells #[] 60)).drew from below_d (below_al (below_al (Below.refl _ _) _) _))
                      go_region_held3 (fun Z => Z.cell? ⟨w.heap.size, 0, none⟩ = some (.int .i64 a.r) ∧ Z.cell? ⟨w.heap.size, 1, none⟩ = some (.int .i64 a.c))
                        (exact HK.out _ (by repeat (first | with_reducible exact Below.refl _ _ | with_reducible exact BB7.out | with_reducible exact BB9.out | with_reducible exact BB13.out | with_reducible refine below_d ?_ | with_reducible refine below_al ?_ _)))
                        (first | (refine step_append_owns kindT _ rfl (.tmp 83) (.tmp 86) rfl (l := []) (m := (ts.take k)) (B := w5.heap.size) (M := w5.heap.size) rfl rfl hkl.symm E1.out (R5.out.below (below_d (below_al (Below.refl _ _) _))) hln1 (below_d (below_al (Below.refl _ _) _)).size ?_
                                  intro v7 w7 ho7 hg7 hat7
                                  have BB7 := Lib.hid (below_grown (below_d (below_al (Below.refl _ w5) _)) (below_d (below_al (Below.refl _ w5) _)).size hg7 (fun i hi => (E1.out.lt i hi).1))
                                  have HO7 := Lib.hid ho7
                                  clear ho7 hg7 hat7)
                               | (refine step_append_owns kindT _ rfl (.tmp 83) (.tmp 86) rfl (l := []) (m := (ts.take k)) (B := w5.heap.size) (M := w5.heap.size) rfl rfl hkl.symm E2.out (R5.out.below b2.out) hln1 b2.out.size ?_
                                  intro v7 w7 ho7 hg7 hat7
                                  have BB7 := Lib.hid (below_grown b2.out b2.out.size hg7 (fun i hi => (E2.out.lt i hi).1))
                                  have HO7 := Lib.hid ho7
                                  have HB7 := Lib.hid (X2.out.grown hg7 (fun e => by have := Option.some.inj e; simp at this))
                                  clear ho7 hg7 hat7)
                               | (refine step_append_owns kindT _ rfl (.tmp 83) (.tmp 86) rfl (l := []) (m := (ts.take k)) (B := w5.heap.size) (M := w5.heap.size) rfl rfl hkl.symm E3.out (R5.out.below b3.out) hln1 b3.out.size ?_
                                  intro v7 w7 ho7 hg7 hat7
                                  have BB7 := Lib.hid (below_grown b3.out b3.out.size hg7 (fun i hi => (E3.out.lt i hi).1))
                                  have HO7 := Lib.hid ho7
                                  have HB7 := Lib.hid (X3.out.grown hg7 (fun e => by have := Option.some.inj e; simp at this))
                                  clear ho7 hg7 hat7)
                               | (refine step_append_owns kindT _ rfl (.tmp 87) (.tmp 91) rfl (l := [] ++ (ts.take k)) (m := [(⟨a.r, a.c, eA, (putsL [] l).length, ec⟩ : Tp)]) (B := w5.heap.size) rfl rfl rfl HO7.out HB7.out.reads hln2 BB7.out.size ?_
                                  intro v9 w9 ho9 hg9 hat9
                                  have BB9 := Lib.hid (below_grown BB7.out BB7.out.size hg9 (fun i hi => (HO7.out.lt i hi).1))
                                  have HO9 := Lib.hid ho9
                                  clear ho9 hg9 hat9)
                               | (refine step_append_owns kindT _ rfl (.tmp 87) (.tmp 91) rfl (l := [] ++ (ts.take k)) (m := [(⟨a.r, a.c, eA, (putsL [] l).length, ec⟩ : Tp)]) (B := w5.heap.size) rfl rfl rfl (HO7.out.below ((Below.refl _ _).alloc (Nat.le_refl _) _)) (Boxed.new w7 (⟨a.r, a.c, eA, (putsL [] l).length, ec⟩ : Tp)).reads hln2 (below_al BB7.out _).size ?_
                                  intro v9 w9 ho9 hg9 hat9
                                  have BB9 := Lib.hid (below_grown (below_al BB7.out _) (below_al BB7.out _).size hg9 (fun i hi => (HO7.out.lt i hi).1))
                                  have HO9 := Lib.hid ho9
                                  clear ho9 hg9 hat9)
                               | (refine step_append_owns kindT _ rfl (.tmp 92) (.tmp 95) rfl (l := [] ++ (ts.take k) ++ [(⟨a.r, a.c, eA, (putsL [] l).length, ec⟩ : Tp)]) (m := (ts.drop k)) (B := w5.heap.size) (M := w5.heap.size) rfl rfl hdl.symm HO9.out (R6.out.below BB9.out) hln3 BB9.out.size ?_
                                  intro v13 w13 ho13 hg13 hat13
                                  have BB13 := Lib.hid (below_grown BB9.out BB9.out.size hg13 (fun i hi => (HO9.out.lt i hi).1))
                                  have HO13 := Lib.hid ho13
                                  clear ho13 hg13 hat13))
                      all_goals
                        obtain ⟨nA, nn, nc, hv13⟩ := owns_form HO13.out
                        subst hv13
                        obtain ⟨⟨z0, z1⟩, hfin⟩ := HFIN.out w13 nA nn nc BB13.out HO13.out
                        obtain ⟨zv, z0⟩ := z0
                        have HF := Lib.hid hfin
                        clear hfin
                        go_wp2_with fail
                        all_goals
                          go_ret
                          exact HF.out
                    · have HBX := Lib.hid hbx
                      clear hbx
                      go_wp2_with fail
                      go_roundw
                      case rel => exact ⟨k + 1, by omega, by go_num, Lib.hid ⟨HB5.out, fun i y hi hy => by
                        by_cases e : i = k
                        · subst e; rw [HX3.out] at hy; cases hy; exact HBX.out
                        · exact HN.out i y (by omega) hy⟩⟩
                      case measure => simp [intOf]; omega
                  · have hd5 : ¬ (k : Int) < (ts.length : Int) := by omega
                    obtain rfl : k = ts.length := by omega
                    have HN := Lib.hid hn
                    have HB9 := Lib.hid (show ∀ n, Below U.heap.size U (wr.drewN n) from fun n => below_drewN' hbw n)
                    clear hbw hn hX3 HR2
                    go_wp2_with fail
                    go_quiet (fail)
                    generalize hV9 : World.drewN wr _ = V9
                    have HB5 : Hid (Below U.heap.size U V9) := Lib.hid (by rw [← hV9]; exact HB9.out _)
                    clear hV9 HB9 x0 x1
                    have hX5 := HXU.out.below HB5.out hUa
                    have h59 := hX5.lt
                    have HK := Lib.hid (show ∀ Z : World, Below V9.heap.size V9 Z → Z.cell? ⟨w.heap.size, 0, none⟩ = some (.int .i64 a.r) ∧ Z.cell? ⟨w.heap.size, 1, none⟩ = some (.int .i64 a.c) from fun Z h => ⟨(hX5.below h h59).cells 0 _ rfl, (hX5.below h h59).cells 1 _ rfl⟩)
                    have HFIN : Hid (∀ (Z : World) (A' : Option Addr) (n' c' : Nat), Below V9.heap.size V9 Z → Owns fT 3 60 Z V9.heap.size (.slice A' n' c') ([] ++ ts.take ts.length ++ [(⟨a.r, a.c, eA, (putsL [] l).length, ec⟩ : Tp)] ++ ts.drop ts.length) → ((∃ zv, Z.cell? ⟨b, 0, none⟩ = some zv) ∧ Z.frozen? ⟨b, 0, none⟩ = false) ∧ SetPost FP b (setR G a l) w (.returned (.int .i64 0)) (Z.setCell ⟨b, 0, none⟩ (.slice A' n' c'))) := Lib.hid fun Z A' n' c' hbz hoz => by
                      have b1 : Below V.heap.size V Z := HBU.out.trans ((HB5.out.mono HBU.out.size).trans (hbz.mono (Nat.le_trans HBU.out.size HB5.out.size)))
                      have b2 : Below w.heap.size w Z := HVW.out.trans (b1.mono HVW.out.size)
                      have hgz := HG.out.below b2
                      refine ⟨⟨by obtain ⟨A9, c9, z0, -⟩ := hgz.form; exact ⟨_, z0⟩, hgz.frozen⟩, ?_⟩
                      have hah : aheadG bfP (lessG G a) a = ts.length := ahead_at (by rw [← HTL.out]; exact hk0) HN.out (Or.inl HTL.out)
                      have hput : putG bfP (lessG G a) (a, putsL [] l) = (lessG G a).take ts.length ++ [(a, putsL [] l)] ++ (lessG G a).drop ts.length := by
                        unfold putG
                        show (lessG G a).take (aheadG bfP (lessG G a) a) ++ (a, putsL [] l) :: (lessG G a).drop (aheadG bfP (lessG G a) a) = _
                        rw [hah, List.append_assoc]; rfl
                      have hrat : RAt Z Z.heap.size (putsL [] l) eA := ((RefsC.OS.rat HE.out).2.below b1).mono b1.size
                      have hties : Ties Z (NewP FP w) ([] ++ ts.take ts.length ++ [(⟨a.r, a.c, eA, (putsL [] l).length, ec⟩ : Tp)] ++ ts.drop ts.length) ((lessG G a).take ts.length ++ [(a, putsL [] l)] ++ (lessG G a).drop ts.length) := by
                        rw [List.nil_append]
                        exact (((HTU.out.below b1).take ts.length).app (Ties.one rfl rfl hrat (fun hne e9 he9 => Or.inr (Nat.le_trans HBW.out.size (RefsC.OS.lt HE.out e9.block (by rw [show eA = some e9 from he9]; rfl)).1)))).app ((HTU.out.below b1).drop ts.length)
                      obtain ⟨h1, h2⟩ := GSt.store b2 HG.out hoz (Nat.le_trans HVW.out.size (Nat.le_trans HBU.out.size HB5.out.size)) hties
                      rw [HON.out, if_neg HES.out, if_neg (by rw [← HTL.out]; exact hmany), hput]
                      exact ⟨rfl, h1, h2⟩
                    clear hX5
                    cases oA with
                    | none =>
                      have hoc0 := hon rfl
                      subst hoc0
                      obtain rfl : ts = [] := List.length_eq_zero_iff.1 (by omega)
                      have hkl : (([] : List Tp).take 0).length = 0 := rfl
                      have hdl : (([] : List Tp).drop 0).length = 0 := rfl
                      have hln1 : ([] : List Tp).length + (([] : List Tp).take 0).length ≤ 100000000 := by simp
                      have hln2 : ([] ++ ([] : List Tp).take 0).length + 1 ≤ 100000000 := by simp
                      have hln3 : ([] ++ ([] : List Tp).take 0 ++ [(⟨a.r, a.c, eA, (putsL [] l).length, ec⟩ : Tp)]).length + (([] : List Tp).drop 0).length ≤ 100000000 := by simp
                      have R5 := Lib.hid (show Reads fT 3 V9 V9.heap.size (([] : List Tp).take 0) none from Or.inl rfl)
                      have R6 := Lib.hid (show Reads fT 3 V9 V9.heap.size (([] : List Tp).drop 0) none from Or.inl rfl)
                      go_wp2_with fail
                      have E1 := Lib.hid (show Owns fT 3 60 (V9.alloc (.cells #[] 60)).drew V9.heap.size (.slice (some ⟨V9.heap.size, 0, none⟩) 0 0) [] from Owns.empty V9 _ (Nat.le_refl _))
                      have E2 := Lib.hid (show Owns fT 3 60 ((V9.alloc (.cells #[] 60)).alloc (.cells #[.int .i64 a.r, .int .i64 a.c, .slice eA (putsL [] l).length ec] 60)).drew V9.heap.size (.slice (some ⟨V9.heap.size, 0, none⟩) 0 0) [] from (Owns.empty (f := fT) (n := 3) (ty := 60) V9 _ (Nat.le_refl _)).below (below_d ((Below.refl _ _).alloc (Nat.le_refl _) _)))
                      have E3 := Lib.hid (show Owns fT 3 60 ((V9.alloc (.cells #[.int .i64 a.r, .int .i64 a.c, .slice eA (putsL [] l).length ec] 60)).alloc (.cells #[] 60)).drew V9.heap.size (.slice (some ⟨V9.heap.size + 1, 0, none⟩) 0 0) [] from by
                        have h := Owns.empty (f := fT) (n := 3) (ty := 60) (V9.alloc (.cells #[.int .i64 a.r, .int .i64 a.c, .slice eA (putsL [] l).length ec] 60)) V9.heap.size (by rw [World.size_alloc]; omega)
                        rw [World.size_alloc] at h
                        exact h)
                      have X2 := Lib.hid (show Boxed fT 60 ((V9.alloc (.cells #[] 60)).alloc (.cells #[.int .i64 a.r, .int .i64 a.c, .slice eA (putsL [] l).length ec] 60)).drew (V9.heap.size + 1) (⟨a.r, a.c, eA, (putsL [] l).length, ec⟩ : Tp) from by
                        have h := Boxed.new (f := fT) (ty := 60) (V9.alloc (.cells #[] 60)) (⟨a.r, a.c, eA, (putsL [] l).length, ec⟩ : Tp)
                        rw [World.size_alloc] at h
                        exact h)
                      have X3 := Lib.hid (show Boxed fT 60 ((V9.alloc (.cells #[.int .i64 a.r, .int .i64 a.c, .slice eA (putsL [] l).length ec] 60)).alloc (.cells #[] 60)).drew V9.heap.size (⟨a.r, a.c, eA, (putsL [] l).length, ec⟩ : Tp) from (Boxed.new (f := fT) (ty := 60) V9 (⟨a.r, a.c, eA, (putsL [] l).length, ec⟩ : Tp)).below (below_d ((Below.refl _ _).alloc (Nat.le_refl _) _)) (by rw [World.size_alloc]; omega))
                      have b2 := Lib.hid (show Below V9.heap.size V9 ((V9.alloc (.cells #[] 60)).alloc (.cells #[.int .i64 a.r, .int .i64 a.c, .slice eA (putsL [] l).length ec] 60)).drew from below_d (below_al (below_al (Below.refl _ _) _) _))
                      have b3 := Lib.hid (show Below V9.heap.size V9 ((V9.alloc (.cells #[.int .i64 a.r, .int .i64 a.c, .slice eA (putsL [] l).length ec] 60)).alloc (.cells #[] 60)).drew from below_d (below_al (below_al (Below.refl _ _) _) _))
                      go_region_held3 (fun Z => Z.cell? ⟨w.heap.size, 0, none⟩ = some (.int .i64 a.r) ∧ Z.cell? ⟨w.heap.size, 1, none⟩ = some (.int .i64 a.c))
                        (exact HK.out _ (by repeat (first | with_reducible exact Below.refl _ _ | with_reducible exact BB7.out | with_reducible exact BB9.out | with_reducible exact BB13.out | with_reducible refine below_d ?_ | with_reducible refine below_al ?_ _)))
                        (first | (refine step_append_owns kindT _ rfl (.tmp 83) (.tmp 86) rfl (l := []) (m := (([] : List Tp).take 0)) (B := V9.heap.size) (M := V9.heap.size) rfl rfl hkl.symm E1.out (R5.out.below (below_d (below_al (Below.refl _ _) _))) hln1 (below_d (below_al (Below.refl _ _) _)).size ?_
                                  intro v7 w7 ho7 hg7 hat7
                                  have BB7 := Lib.hid (below_grown (below_d (below_al (Below.refl _ V9) _)) (below_d (below_al (Below.refl _ V9) _)).size hg7 (fun i hi => (E1.out.lt i hi).1))
                                  have HO7 := Lib.hid ho7
                                  clear ho7 hg7 hat7)
                               | (refine step_append_owns kindT _ rfl (.tmp 83) (.tmp 86) rfl (l := []) (m := (([] : List Tp).take 0)) (B := V9.heap.size) (M := V9.heap.size) rfl rfl hkl.symm E2.out (R5.out.below b2.out) hln1 b2.out.size ?_
                                  intro v7 w7 ho7 hg7 hat7
                                  have BB7 := Lib.hid (below_grown b2.out b2.out.size hg7 (fun i hi => (E2.out.lt i hi).1))
                                  have HO7 := Lib.hid ho7
                                  have HB7 := Lib.hid (X2.out.grown hg7 (fun e => by have := Option.some.inj e; simp at this))
                                  clear ho7 hg7 hat7)
                               | (refine step_append_owns kindT _ rfl (.tmp 83) (.tmp 86) rfl (l := []) (m := (([] : List Tp).take 0)) (B := V9.heap.size) (M := V9.heap.size) rfl rfl hkl.symm E3.out (R5.out.below b3.out) hln1 b3.out.size ?_
                                  intro v7 w7 ho7 hg7 hat7
                                  have BB7 := Lib.hid (below_grown b3.out b3.out.size hg7 (fun i hi => (E3.out.lt i hi).1))
                                  have HO7 := Lib.hid ho7
                                  have HB7 := Lib.hid (X3.out.grown hg7 (fun e => by have := Option.some.inj e; simp at this))
                                  clear ho7 hg7 hat7)
                               | (refine step_append_owns kindT _ rfl (.tmp 87) (.tmp 91) rfl (l := [] ++ (([] : List Tp).take 0)) (m := [(⟨a.r, a.c, eA, (putsL [] l).length, ec⟩ : Tp)]) (B := V9.heap.size) rfl rfl rfl HO7.out HB7.out.reads hln2 BB7.out.size ?_
                                  intro v9 w9 ho9 hg9 hat9
                                  have BB9 := Lib.hid (below_grown BB7.out BB7.out.size hg9 (fun i hi => (HO7.out.lt i hi).1))
                                  have HO9 := Lib.hid ho9
                                  clear ho9 hg9 hat9)
                               | (refine step_append_owns kindT _ rfl (.tmp 87) (.tmp 91) rfl (l := [] ++ (([] : List Tp).take 0)) (m := [(⟨a.r, a.c, eA, (putsL [] l).length, ec⟩ : Tp)]) (B := V9.heap.size) rfl rfl rfl (HO7.out.below ((Below.refl _ _).alloc (Nat.le_refl _) _)) (Boxed.new w7 (⟨a.r, a.c, eA, (putsL [] l).length, ec⟩ : Tp)).reads hln2 (below_al BB7.out _).size ?_
                                  intro v9 w9 ho9 hg9 hat9
                                  have BB9 := Lib.hid (below_grown (below_al BB7.out _) (below_al BB7.out _).size hg9 (fun i hi => (HO7.out.lt i hi).1))
                                  have HO9 := Lib.hid ho9
                                  clear ho9 hg9 hat9)
                               | (refine step_append_owns kindT _ rfl (.tmp 92) (.tmp 95) rfl (l := [] ++ (([] : List Tp).take 0) ++ [(⟨a.r, a.c, eA, (putsL [] l).length, ec⟩ : Tp)]) (m := (([] : List Tp).drop 0)) (B := V9.heap.size) (M := V9.heap.size) rfl rfl hdl.symm HO9.out (R6.out.below BB9.out) hln3 BB9.out.size ?_
                                  intro v13 w13 ho13 hg13 hat13
                                  have BB13 := Lib.hid (below_grown BB9.out BB9.out.size hg13 (fun i hi => (HO9.out.lt i hi).1))
                                  have HO13 := Lib.hid ho13
                                  clear ho13 hg13 hat13))
                      all_goals
                        obtain ⟨nA, nn, nc, hv13⟩ := owns_form HO13.out
                        subst hv13
                        obtain ⟨⟨z0, z1⟩, hfin⟩ := HFIN.out w13 nA nn nc BB13.out HO13.out
                        obtain ⟨zv, z0⟩ := z0
                        have HF := Lib.hid hfin
                        clear hfin
                        go_wp2_with fail
                        all_goals
                          go_ret
                          exact HF.out
                    | some ao =>
                      obtain ⟨g, rfl⟩ := hoa ao rfl
                      have hk3 : (ts.length : Int) ≤ (oc : Int) := by omega
                      have hkl : (ts.take ts.length).length = ts.length := by rw [List.take_length]
                      have hdn : ts.drop ts.length = [] := List.drop_eq_nil_of_le (Nat.le_refl _)
                      have hdl : (ts.drop ts.length).length = 0 := by rw [hdn]; rfl
                      have hln1 : ([] : List Tp).length + (ts.take ts.length).length ≤ 100000000 := by simp; omega
                      have hln2 : ([] ++ ts.take ts.length).length + 1 ≤ 100000000 := by simp; omega
                      have hln3 : ([] ++ ts.take ts.length ++ [(⟨a.r, a.c, eA, (putsL [] l).length, ec⟩ : Tp)]).length + (ts.drop ts.length).length ≤ 100000000 := by rw [List.nil_append, List.length_append, hkl, hdl, List.length_singleton]; omega
                      have R5 := Lib.hid (((HRU.out.below HB5.out).mono HB5.out.size).take ts.length)
                      have R7 := Lib.hid (show ∀ A, Reads fT 3 V9 V9.heap.size (ts.drop ts.length) A from fun A => Or.inl hdn)
                      clear hdn
                      have R6 := Lib.hid (R7.out (if oc = ts.length then some ⟨g, 0, none⟩ else some ⟨g, ts.length * 3, none⟩))
                      go_wp2_with fail
                      have E1 := Lib.hid (show Owns fT 3 60 (V9.alloc (.cells #[] 60)).drew V9.heap.size (.slice (some ⟨V9.heap.size, 0, none⟩) 0 0) [] from Owns.empty V9 _ (Nat.le_refl _))
                      have E2 := Lib.hid (show Owns fT 3 60 ((V9.alloc (.cells #[] 60)).alloc (.cells #[.int .i64 a.r, .int .i64 a.c, .slice eA (putsL [] l).length ec] 60)).drew V9.heap.size (.slice (some ⟨V9.heap.size, 0, none⟩) 0 0) [] from (Owns.empty (f := fT) (n := 3) (ty := 60) V9 _ (Nat.le_refl _)).below (below_d ((Below.refl _ _).alloc (Nat.le_refl _) _)))
                      have E3 := Lib.hid (show Owns fT 3 60 ((V9.alloc (.cells #[.int .i64 a.r, .int .i64 a.c, .slice eA (putsL [] l).length ec] 60)).alloc (.cells #[] 60)).drew V9.heap.size (.slice (some ⟨V9.heap.size + 1, 0, none⟩) 0 0) [] from by
                        have h := Owns.empty (f := fT) (n := 3) (ty := 60) (V9.alloc (.cells #[.int .i64 a.r, .int .i64 a.c, .slice eA (putsL [] l).length ec] 60)) V9.heap.size (by rw [World.size_alloc]; omega)
                        rw [World.size_alloc] at h
                        exact h)
                      have X2 := Lib.hid (show Boxed fT 60 ((V9.alloc (.cells #[] 60)).alloc (.cells #[.int .i64 a.r, .int .i64 a.c, .slice eA (putsL [] l).length ec] 60)).drew (V9.heap.size + 1) (⟨a.r, a.c, eA, (putsL [] l).length, ec⟩ : Tp) from by
                        have h := Boxed.new (f := fT) (ty := 60) (V9.alloc (.cells #[] 60)) (⟨a.r, a.c, eA, (putsL [] l).length, ec⟩ : Tp)
                        rw [World.size_alloc] at h
                        exact h)
                      have X3 := Lib.hid (show Boxed fT 60 ((V9.alloc (.cells #[.int .i64 a.r, .int .i64 a.c, .slice eA (putsL [] l).length ec] 60)).alloc (.cells #[] 60)).drew V9.heap.size (⟨a.r, a.c, eA, (putsL [] l).length, ec⟩ : Tp) from (Boxed.new (f := fT) (ty := 60) V9 (⟨a.r, a.c, eA, (putsL [] l).length, ec⟩ : Tp)).below (below_d ((Below.refl _ _).alloc (Nat.le_refl _) _)) (by rw [World.size_alloc]; omega))
                      have b2 := Lib.hid (show Below V9.heap.size V9 ((V9.alloc (.cells #[] 60)).alloc (.cells #[.int .i64 a.r, .int .i64 a.c, .slice eA (putsL [] l).length ec] 60)).drew from below_d (below_al (below_al (Below.refl _ _) _) _))
                      have b3 := Lib.hid (show Below V9.heap.size V9 ((V9.alloc (.cells #[.int .i64 a.r, .int .i64 a.c, .slice eA (putsL [] l).length ec] 60)).alloc (.cells #[] 60)).drew from below_d (below_al (below_al (Below.refl _ _) _) _))
                      go_region_held3 (fun Z => Z.cell? ⟨w.heap.size, 0, none⟩ = some (.int .i64 a.r) ∧ Z.cell? ⟨w.heap.size, 1, none⟩ = some (.int .i64 a.c))
                        (exact HK.out _ (by repeat (first | with_reducible exact Below.refl _ _ | with_reducible exact BB7.out | with_reducible exact BB9.out | with_reducible exact BB13.out | with_reducible refine below_d ?_ | with_reducible refine below_al ?_ _)))
                        (first | (refine step_append_owns kindT _ rfl (.tmp 83) (.tmp 86) rfl (l := []) (m := (ts.take ts.length)) (B := V9.heap.size) (M := V9.heap.size) rfl rfl hkl.symm E1.out (R5.out.below (below_d (below_al (Below.refl _ _) _))) hln1 (below_d (below_al (Below.refl _ _) _)).size ?_
                                  intro v7 w7 ho7 hg7 hat7
                                  have BB7 := Lib.hid (below_grown (below_d (below_al (Below.refl _ V9) _)) (below_d (below_al (Below.refl _ V9) _)).size hg7 (fun i hi => (E1.out.lt i hi).1))
                                  have HO7 := Lib.hid ho7
                                  clear ho7 hg7 hat7)
                               | (refine step_append_owns kindT _ rfl (.tmp 83) (.tmp 86) rfl (l := []) (m := (ts.take ts.length)) (B := V9.heap.size) (M := V9.heap.size) rfl rfl hkl.symm E2.out (R5.out.below b2.out) hln1 b2.out.size ?_
                                  intro v7 w7 ho7 hg7 hat7
                                  have BB7 := Lib.hid (below_grown b2.out b2.out.size hg7 (fun i hi => (E2.out.lt i hi).1))
                                  have HO7 := Lib.hid ho7
                                  have HB7 := Lib.hid (X2.out.grown hg7 (fun e => by have := Option.some.inj e; simp at this))
                                  clear ho7 hg7 hat7)
                               | (refine step_append_owns kindT _ rfl (.tmp 83) (.tmp 86) rfl (l := []) (m := (ts.take ts.length)) (B := V9.heap.size) (M := V9.heap.size) rfl rfl hkl.symm E3.out (R5.out.below b3.out) hln1 b3.out.size ?_
                                  intro v7 w7 ho7 hg7 hat7
                                  have BB7 := Lib.hid (below_grown b3.out b3.out.size hg7 (fun i hi => (E3.out.lt i hi).1))
                                  have HO7 := Lib.hid ho7
                                  have HB7 := Lib.hid (X3.out.grown hg7 (fun e => by have := Option.some.inj e; simp at this))
                                  clear ho7 hg7 hat7)
                               | (refine step_append_owns kindT _ rfl (.tmp 87) (.tmp 91) rfl (l := [] ++ (ts.take ts.length)) (m := [(⟨a.r, a.c, eA, (putsL [] l).length, ec⟩ : Tp)]) (B := V9.heap.size) rfl rfl rfl HO7.out HB7.out.reads hln2 BB7.out.size ?_
                                  intro v9 w9 ho9 hg9 hat9
                                  have BB9 := Lib.hid (below_grown BB7.out BB7.out.size hg9 (fun i hi => (HO7.out.lt i hi).1))
                                  have HO9 := Lib.hid ho9
                                  clear ho9 hg9 hat9)
                               | (refine step_append_owns kindT _ rfl (.tmp 87) (.tmp 91) rfl (l := [] ++ (ts.take ts.length)) (m := [(⟨a.r, a.c, eA, (putsL [] l).length, ec⟩ : Tp)]) (B := V9.heap.size) rfl rfl rfl (HO7.out.below ((Below.refl _ _).alloc (Nat.le_refl _) _)) (Boxed.new w7 (⟨a.r, a.c, eA, (putsL [] l).length, ec⟩ : Tp)).reads hln2 (below_al BB7.out _).size ?_
                                  intro v9 w9 ho9 hg9 hat9
                                  have BB9 := Lib.hid (below_grown (below_al BB7.out _) (below_al BB7.out _).size hg9 (fun i hi => (HO7.out.lt i hi).1))
                                  have HO9 := Lib.hid ho9
                                  clear ho9 hg9 hat9)
                               | (refine step_append_owns kindT _ rfl (.tmp 92) (.tmp 95) rfl (l := [] ++ (ts.take ts.length) ++ [(⟨a.r, a.c, eA, (putsL [] l).length, ec⟩ : Tp)]) (m := (ts.drop ts.length)) (B := V9.heap.size) (M := V9.heap.size) rfl rfl hdl.symm HO9.out (R6.out.below BB9.out) hln3 BB9.out.size ?_
                                  intro v13 w13 ho13 hg13 hat13
                                  have BB13 := Lib.hid (below_grown BB9.out BB9.out.size hg13 (fun i hi => (HO9.out.lt i hi).1))
                                  have HO13 := Lib.hid ho13
                                  clear ho13 hg13 hat13))
                      all_goals
                        obtain ⟨nA, nn, nc, hv13⟩ := owns_form HO13.out
                        subst hv13
                        obtain ⟨⟨z0, z1⟩, hfin⟩ := HFIN.out w13 nA nn nc BB13.out HO13.out
                        obtain ⟨zv, z0⟩ := z0
                        have HF := Lib.hid hfin
                        clear hfin
                        go_wp2_with fail
                        all_goals
                          go_ret
                          exact HF.out
end Go.Proofs.YtakamedgdiffbaaGreatDoor.GraphC
namespace Go.Proofs.YtakamedgdiffbaaGreatDoor.GraphC
set_option linter.unusedVariables false
open Go.RowKit Go.Proofs.YtakamedgdiffbaaGreatDoor.NumC Go.Proofs.YtakamedgdiffbaaGreatDoor.RowsC
open Go.Proofs.YtakamedgdiffbaaGreatDoor.RefsC (Rc RAt hitsL putL putsL OS RBox box_rat)
open Go.Proofs.YtakamedgdiffbaaGreatDoor.TreeC (Kept)
def fR (x : Rc) : List Value := [.int .i64 x.a, .int .i64 x.b, .int .i64 x.c, .int .i64 x.d]
theorem kindR : Kind fR 4 36 51 where
  row := ⟨fun _ => rfl, fun x u hu => by
    simp only [fR, List.mem_cons, List.not_mem_nil, or_false] at hu
    rcases hu with rfl | rfl | rfl | rfl <;> rfl, by decide⟩
  under := Tryz.underlying36
  info := ⟨.agg #[.int .i64 0, .int .i64 0, .int .i64 0, .int .i64 0], 32, by kernel_rfl, rfl, by decide⟩
theorem reads_rat {w : World} {B : Nat} {l : List Rc} {A : Option Addr} (h : Reads fR 4 w B l A) : RAt w B l A := by
  rcases h with h | ⟨g, o, e, hg, h⟩
  · exact Or.inl h
  · exact Or.inr ⟨g, o, e, hg, fun i x hx => ⟨h i x hx 0 _ rfl, h i x hx 1 _ rfl, h i x hx 2 _ rfl, h i x hx 3 _ rfl⟩⟩
theorem rat_reads {w : World} {B : Nat} {l : List Rc} {A : Option Addr} (h : RAt w B l A) : Reads fR 4 w B l A := by
  rcases h with h | ⟨g, o, e, hg, h⟩
  · exact Or.inl h
  · refine Or.inr ⟨g, o, e, hg, fun i x hx j u hj => ?_⟩
    obtain ⟨c0, c1, c2, c3⟩ := h i x hx
    match j, hj with
    | 0, hj => cases hj; exact c0
    | 1, hj => cases hj; exact c1
    | 2, hj => cases hj; exact c2
    | 3, hj => cases hj; exact c3
theorem GSt.bound {w : World} {FP : Nat → Prop} {b : Nat} {G : Gl} (h : GSt w FP b G) : GSt w (fun k => FP k ∧ k < w.heap.size) b G := by
  have hlt := h.lt
  obtain ⟨ty, A, c, ts, h1, h2, h3, h4, h5⟩ := h
  refine ⟨ty, A, c, ts, h1, h2, ⟨h3.1, fun i t x ht hx => ?_⟩, ⟨h4, hlt⟩, fun hne a ha => ⟨h5 hne a ha, ?_⟩⟩
  · obtain ⟨e1, e2, e3, e4⟩ := h3.2 i t x ht hx
    refine ⟨e1, e2, e3, fun hne a ha => ⟨e4 hne a ha, ?_⟩⟩
    rcases e3 with e3 | ⟨g, o, e, hg, -⟩
    · exact absurd e3 hne
    · rw [ha] at e; cases e; exact hg
  · rcases h2 with h2 | ⟨g, o, e, hg, -⟩
    · exact absurd h2 hne
    · rw [ha] at e; cases e; exact hg
variable {K : World → Prop} {At : World → (Nat → Prop) → Value → Gl → Prop}
def ST (K : World → Prop) (At : World → (Nat → Prop) → Value → Gl → Prop) (w Z : World) (v : Value) (b : Nat) (Gc Gr : Gl) : Prop :=
  ∃ P FP, WSt K At w Z P v Gc ∧ GSt Z FP b Gr ∧ (∀ k, FP k → w.heap.size ≤ k ∧ k < Z.heap.size) ∧ (∀ k, P k → ¬ FP k)
theorem ST.under (I : CodeG K At) {w Z Z' : World} {v : Value} {b : Nat} {Gc Gr : Gl} (h : ST K At w Z v b Gc Gr) (hb : Below Z.heap.size Z Z') : ST K At w Z' v b Gc Gr := by
  obtain ⟨P, FP, h1, h2, h3, h4⟩ := h
  exact ⟨P, FP, h1.under I hb, h2.below hb, fun k hk => ⟨(h3 k hk).1, Nat.lt_of_lt_of_le (h3 k hk).2 hb.size⟩, h4⟩
theorem ST.below {w Z : World} {v : Value} {b : Nat} {Gc Gr : Gl} (h : ST K At w Z v b Gc Gr) : Below w.heap.size w Z := by
  obtain ⟨P, FP, h1, -⟩ := h
  exact h1.below
theorem ST.code {w Z Z' : World} {v : Value} {b : Nat} {Gc Gr : Gl} {P FP P' : Nat → Prop} (h1 : WSt K At w Z P v Gc) (h2 : GSt Z FP b Gr) (h3 : ∀ k, FP k → w.heap.size ≤ k ∧ k < Z.heap.size) (h4 : ∀ k, P k → ¬ FP k)
    (a : Pt) (l : List Rc) (hl : l.length ≤ 1000) (hb : But P Z Z') (hat : At Z' P' v (setR Gc a l).2) (hg : Grew Z Z' P P') : ST K At w Z' v b (setR Gc a l).2 Gr := by
  refine ⟨P', FP, h1.set a l hl hb hat hg, h2.keep hb.size fun k hk hlt => hb.block k hlt fun hp => h4 k hp hk, fun k hk => ⟨(h3 k hk).1, Nat.lt_of_lt_of_le (h3 k hk).2 hb.size⟩, fun k hk hf => ?_⟩
  rcases hg k hk with e | e
  · exact h4 k e hf
  · have := (h3 k hf).2; omega
theorem ST.ref (I : CodeG K At) {w Z Z' : World} {v : Value} {b : Nat} {Gc Gr Gr' : Gl} {P FP : Nat → Prop} (h1 : WSt K At w Z P v Gc) (h2 : GSt Z FP b Gr) (h3 : ∀ k, FP k → w.heap.size ≤ k ∧ k < Z.heap.size) (h4 : ∀ k, P k → ¬ FP k)
    (hg : GSt Z' (NewP FP Z) b Gr') (hk : Kept b Z Z') : ST K At w Z' v b Gc Gr' := by
  have hbw := (h3 b h2.own).1
  have hbz : Below w.heap.size w Z' := h1.below.trans ⟨hk.os, hk.tape, hk.output, hk.size, fun k hlt => hk.block k (Nat.lt_of_lt_of_le hlt h1.below.size) (by omega)⟩
  refine ⟨P, _, { h1 with at_ := I.keep h1.at_ (I.keepK h1.kw hbz) hk.size (fun k hp hlt => hk.block k hlt (fun e => h4 k hp (by rw [e]; exact h2.own))), below := hbz }, hg.bound, fun k hf => ⟨?_, hf.2⟩, fun k hp hf => ?_⟩
  · rcases hf.1 with e | e
    · exact (h3 k e).1
    · exact Nat.le_trans h1.below.size e
  · rcases hf.1 with e | e
    · exact h4 k hp e
    · exact absurd (I.lt h1.at_ k hp) (Nat.not_lt.2 e)
theorem order_len2 (G : Gl) (l : List Pt) : (orderL hitP G l).length ≤ G.length := by
  have h : (orderL hitP G l).length = (todoL hitP G l).length := (order_perm G _ _ rfl (fun a ha => (mem_todo.1 ha).2.2)).length_eq
  rw [h]
  unfold todoL
  refine Nat.le_trans (List.length_filter_le _ _) ?_
  unfold cellsL
  rw [List.length_map]; exact Nat.le_refl _
theorem edges_len {G : Gl} (h : Bnd G) (a : Pt) : (edgesG [] G a).length ≤ 1000 := by
  unfold edgesG
  split
  · rename_i x hx; exact h.2 x (List.mem_of_find?_eq_some hx)
  · exact Nat.zero_le _
set_option maxHeartbeats 8000000 in
set_option maxRecDepth 100000 in
theorem graphPlays (I : CodeG K At) (ts : List Tp) (L : Gl) (A : Option Addr) (c : Nat) (who : List Pt) (WA : Option Addr) (wc : Nat) (w : World) (hK : K w) (hl : L.length ≤ 9223372036854775807) (h : StepsAt w w.heap.size ts L A) (hwho : Reads fP 2 w w.heap.size who WA) :
    Calls Tryz.prog 3 #[.slice A L.length c, .slice WA who.length wc] w fun e w' => e = .returned (.bool true) ∧ Below w.heap.size w w' := by
  have HI := Lib.hid I
  have HST := Lib.hid h
  have HK := Lib.hid hK
  clear hK
  have HWHO := Lib.hid hwho
  clear h hwho I
  go_enter Tryz.func3, Tryz.ntmps3
  go_wp2_with fail
  refine (HI.out.new w HK.out).mono ?_; rintro e w1 ⟨v, P, rfl, hat, hP, hb1⟩
  obtain ⟨pa, rfl⟩ := HI.out.ptr hat
  have H1 : Hid (ST K At w (w1.alloc (.cells #[.slice none 0 0] 29)) (.pointer (some pa)) w1.heap.size [] []) := Lib.hid (by
    have b2 : Below w1.heap.size w1 (w1.alloc (.cells #[.slice none 0 0] 29)) := (Below.refl _ _).alloc (Nat.le_refl _) _
    have h1 : WSt K At w w1 P (.pointer (some pa)) [] := ⟨hat, hP, hb1, bnd_nil, srt_nil, HK.out⟩
    refine ⟨P, fun q => q = w1.heap.size, h1.under HI.out b2, ⟨29, none, 0, [], heap_alloc_new _ _, Or.inl rfl, Ties.nil _ _, rfl, fun h => absurd rfl h⟩, fun k hk => ?_, fun k hk hf => ?_⟩
    · subst hk; exact ⟨hb1.size, by rw [World.size_alloc]; exact Nat.lt_succ_self _⟩
    · subst hf; exact Nat.lt_irrefl _ (HI.out.lt hat _ hk))
  clear hat hP hb1
  go_wp2_with fail
  generalize w1.heap.size = b at *
  generalize (w1.alloc (.cells #[.slice none 0 0] 29)) = w2 at *
  have hst2 : StepsAt w2 w2.heap.size ts L A := by
    have h1 := HST.out.below H1.out.below
    have hz := H1.out.below.size
    exact ⟨h1.row.mono hz, h1.len, fun i t x ht hx => by
      obtain ⟨e1, e2, e3⟩ := h1.is i t x ht hx
      exact ⟨e1, e2, e3.mono hz⟩⟩
  refine (pfair ts L A c w2 hl hst2).mono ?_; rintro e w3 ⟨rfl, hb3⟩
  have H3 := Lib.hid (H1.out.under HI.out hb3)
  have HB3 := Lib.hid H3.out.below
  clear hst2 hb3 H1
  cases hf : fairB L
  · clear hf
    have hcall := cwakes HI.out w3 (HI.out.keepK HK.out HB3.out)
    go_wp2_with fail
    refine hcall.mono ?_; rintro e w4 ⟨rfl, hb4⟩
    have HB4 := Lib.hid (HB3.out.trans (hb4.mono HB3.out.size))
    clear hcall hb4
    go_wp2_with fail
    go_ret
    exact ⟨rfl, HB4.out⟩
  · obtain ⟨hl40, hl10⟩ := fair_of hf
    have H10 := Lib.hid hl10
    clear hf hl10
    by_cases hw20 : 20 < who.length
    · have hd0 : (20 : Int) < (who.length : Int) := by omega
      have hcall := cwakes HI.out w3 (HI.out.keepK HK.out HB3.out)
      go_wp2_with fail
      refine hcall.mono ?_; rintro e w4 ⟨rfl, hb4⟩
      have HB4 := Lib.hid (HB3.out.trans (hb4.mono HB3.out.size))
      clear hcall hb4
      go_wp2_with fail
      go_ret
      exact ⟨rfl, HB4.out⟩
    · have hd0 : ¬ (20 : Int) < (who.length : Int) := by omega
      go_wp2_with fail
      go_loopw [7] (fun iv wr => ∃ j : Nat, j ≤ L.length ∧ iv = .int .i64 j ∧ Hid (ST K At w wr (.pointer (some pa)) b (setsG (L.take j)) (setsG (L.take j)))) (fun iv _ => L.length - (intOf iv).toNat)
      case atStart => exact ⟨0, Nat.zero_le _, rfl, H3⟩
      case round =>
        obtain ⟨j, hk, rfl, HR2⟩ := hrel
        by_cases hj : j < L.length
        · have hd1 : (j : Int) < (L.length : Int) := by omega
          obtain ⟨x, hx⟩ := RowsC.at_some L j hj
          obtain ⟨g, o, E, k, rfl, hg, c1, c2, c3, hr⟩ := (HST.out.below HR2.out.below).nth j x hx
          have hx10 := H10.out x (List.mem_of_getElem? hx)
          have hstep := sets_step hx
          obtain ⟨G, hG⟩ : ∃ G, G = setsG (L.take j) := ⟨_, rfl⟩
          rw [← hG] at HR2 hstep
          have HSTEP := Lib.hid hstep
          have HE := Lib.hid hr
          have hwz := HR2.out.below.size
          have HS := Lib.hid (show wr.cell? ⟨g, o + j * 3, none⟩ = some (.int .i64 x.1.r) ∧ wr.cell? ⟨g, o + j * 3 + 1, none⟩ = some (.int .i64 x.1.c) ∧ wr.cell? ⟨g, o + j * 3 + 2, none⟩ = some (.slice E x.2.length k) from ⟨c1, c2, c3⟩)
          have HK := Lib.hid (show ∀ Z : World, Below w.heap.size wr Z → Z.cell? ⟨g, o + j * 3, none⟩ = some (.int .i64 x.1.r) ∧ Z.cell? ⟨g, o + j * 3 + 1, none⟩ = some (.int .i64 x.1.c) ∧ Z.cell? ⟨g, o + j * 3 + 2, none⟩ = some (.slice E x.2.length k) from fun Z hz =>
            ⟨(hz.cell (p := ⟨g, _, none⟩) hg).trans c1, (hz.cell (p := ⟨g, _, none⟩) hg).trans c2, (hz.cell (p := ⟨g, _, none⟩) hg).trans c3⟩)
          have b1 : Below wr.heap.size wr (wr.alloc (.cells #[] 51)).drew := below_d ((Below.refl _ _).alloc (Nat.le_refl _) _)
          have E1 := Lib.hid (show Owns fR 4 51 (wr.alloc (.cells #[] 51)).drew wr.heap.size (.slice (some ⟨wr.heap.size, 0, none⟩) 0 0) [] from Owns.empty wr _ (Nat.le_refl _))
          have T1 := Lib.hid ((rat_reads (HE.out.mono hwz)).below b1)
          have B1 := Lib.hid b1
          obtain ⟨P3, FP3, p1, p2, p3, p4⟩ := HR2.out
          obtain ⟨r, hr9⟩ : ∃ r, r = (setR G x.1 x.2).1 := ⟨_, rfl⟩
          obtain ⟨G2, hG2⟩ : ∃ G2, G2 = (setR G x.1 x.2).2 := ⟨_, rfl⟩
          obtain ⟨ES, hES⟩ : ∃ ES, ES = edgesG [] G2 x.1 := ⟨_, rfl⟩
          have hbG2 : Bnd G2 := by rw [hG2]; exact p1.bnd.set x.1 x.2 (by omega)
          have hesl : ES.length ≤ 1000 := by rw [hES]; exact edges_len hbG2 x.1
          have HP3 := Lib.hid (And.intro p1 (And.intro p2 (And.intro p3 p4)))
          have HLT := Lib.hid (fun q (hq : P3 q) => HI.out.lt p1.at_ q hq)
          have FC := Lib.hid (show ∀ (Z : World) (A' : Option Addr) (c' : Nat), Below wr.heap.size wr Z → RAt Z Z.heap.size x.2 A' → (∀ y, A' = some y → wr.heap.size ≤ y.block) → Calls Tryz.prog 7 #[.pointer (some pa), .agg #[.int .i64 x.1.r, .int .i64 x.1.c], .slice A' x.2.length c'] Z (fun e w' => e = .returned (.int .i64 r) ∧ ST K At w w' (.pointer (some pa)) b G2 G ∧ Below w.heap.size Z w') from fun Z A' c' hz hra hno => by
            have q1 := p1.under HI.out hz
            have q2 := p2.below hz
            have h := HI.out.set x.1 x.2 A' c' q1.at_ q1.bnd q1.srt (by omega) hra (fun _ y hy hp => absurd (HI.out.lt p1.at_ _ hp) (Nat.not_lt.2 (hno y hy)))
            refine h.mono ?_
            rintro e w' ⟨rfl, hb, P', hat, hgr⟩
            rw [← hr9]
            refine ⟨rfl, ?_, hb.below q1.own q1.below.size⟩
            rw [hG2]
            exact ST.code q1 q2 (fun q hq => ⟨(p3 q hq).1, Nat.lt_of_lt_of_le (p3 q hq).2 hz.size⟩) p4 x.1 x.2 (by omega) hb hat hgr)
          have FR := Lib.hid (show ∀ (Z : World), ST K At w Z (.pointer (some pa)) b G2 G → RAt Z Z.heap.size x.2 E → Calls Tryz.prog 8 #[.pointer (some ⟨b, 0, none⟩), .agg #[.int .i64 x.1.r, .int .i64 x.1.c], .slice E x.2.length k] Z (fun e w' => e = .returned (.int .i64 r) ∧ ST K At w w' (.pointer (some pa)) b G2 G2 ∧ Below w.heap.size Z w') from fun Z hst hra => by
            obtain ⟨P4, FP4, q1, q2, q3, q4⟩ := hst
            have h := rSet b G x.1 x.2 E k Z p1.bnd (by omega) q2 hra
            refine h.mono ?_
            rintro e w' ⟨rfl, hg9, hk9⟩
            rw [← hr9]
            rw [← hG2] at hg9
            have hbw := (q3 b q2.own).1
            exact ⟨rfl, ST.ref HI.out q1 q2 q3 q4 hg9 hk9, hk9.os, hk9.tape, hk9.output, hk9.size, fun q hq => hk9.block q (Nat.lt_of_lt_of_le hq q1.below.size) (by omega)⟩)
          have FE1 := Lib.hid (show ∀ (Z : World), ST K At w Z (.pointer (some pa)) b G2 G2 → Calls Tryz.prog 10 #[.pointer (some pa), .agg #[.int .i64 x.1.r, .int .i64 x.1.c]] Z (EdgesPost ES Z) from fun Z hst => by
            obtain ⟨P4, FP4, q1, q2, q3, q4⟩ := hst
            rw [hES]; exact HI.out.edges x.1 q1.at_ q1.bnd q1.srt)
          have FE2 := Lib.hid (show ∀ (Z : World), ST K At w Z (.pointer (some pa)) b G2 G2 → Calls Tryz.prog 11 #[.pointer (some ⟨b, 0, none⟩), .agg #[.int .i64 x.1.r, .int .i64 x.1.c]] Z (EdgesPost ES Z) from fun Z hst => by
            obtain ⟨P4, FP4, q1, q2, q3, q4⟩ := hst
            rw [hES]; exact rEdges b G2 x.1 Z hbG2 q2)
          have FK := Lib.hid (show ∀ (Z : World) (A1 A2 : Option Addr) (c1 c2 : Nat), RAt Z Z.heap.size ES A1 → RAt Z Z.heap.size ES A2 → Calls Tryz.prog 9 #[.slice A1 ES.length c1, .slice A2 ES.length c2] Z (fun e w' => e = .returned (.bool true) ∧ Below Z.heap.size Z w') from fun Z A1 A2 c1 c2 h1 h2 => by
            have h := RefsC.kRects ES ES A1 A2 c1 c2 Z (by omega) (by omega) h1 h2
            rw [decide_eq_true rfl] at h; exact h)
          have HG2 := Lib.hid (show setsG (L.take (j + 1)) = G2 from by rw [HSTEP.out, hG2])
          clear p1 p2 p3 p4 hr9 hG2 hES hbG2 hesl HSTEP
          have hln : ([] : List Rc).length + x.2.length ≤ 100000000 := by simp; omega
          clear hx hr hG hstep b1
          go_wp2_with fail
          clear c1 c2 c3
          go_region_held3 (fun Z => Z.cell? ⟨g, o + j * 3, none⟩ = some (.int .i64 x.1.r) ∧ Z.cell? ⟨g, o + j * 3 + 1, none⟩ = some (.int .i64 x.1.c) ∧ Z.cell? ⟨g, o + j * 3 + 2, none⟩ = some (.slice E x.2.length k))
            (first | with_reducible exact HS.out | exact HK.out _ (below_d (Below.refl _ _)) | exact HK.out _ (B1.out.mono hwz) | exact HK.out _ B7.out | exact HK.out _ B8.out | exact HK.out _ B9.out | exact HK.out _ B10.out | exact HK.out _ B11.out | exact HK.out _ B12.out)
            (first | (refine step_append_owns kindR _ rfl (.tmp 41) (.tmp 46) rfl (l := []) (m := x.2) (B := wr.heap.size) (M := wr.heap.size) rfl rfl rfl E1.out T1.out hln B1.out.size ?_
                      intro v7 w7 ho7 hg7 hat7
                      rw [List.nil_append] at ho7
                      obtain ⟨A7, c7, hv7, -⟩ := ho7.form
                      subst hv7
                      have BB7 := Lib.hid (below_grown B1.out B1.out.size hg7 (fun i hi => (E1.out.lt i hi).1))
                      have B7 := Lib.hid (BB7.out.mono hwz)
                      have R7 := Lib.hid (And.intro (reads_rat (ho7.reads kindR.row).2) (fun y (hy : A7 = some y) => (ho7.lt y.block (by rw [hy]; rfl)).1))
                      clear ho7 hg7 hat7)
                   | (go_at_call 7
                      refine (FC.out w7 A7 c7 BB7.out R7.out.1 R7.out.2).mono ?_
                      rintro e w8 ⟨rfl, hs8, hb8⟩
                      have S8 := Lib.hid hs8
                      have B8 := Lib.hid (B7.out.trans hb8)
                      clear hs8 hb8)
                   | (go_at_call 8
                      refine (FR.out w8 S8.out ((HE.out.below B8.out).mono S8.out.below.size)).mono ?_
                      rintro e w9 ⟨rfl, hs9, hb9⟩
                      have S9 := Lib.hid hs9
                      have B9 := Lib.hid (B8.out.trans hb9)
                      clear hs9 hb9)
                   | (go_at_call 10
                      refine (FE1.out w9 S9.out).mono ?_
                      rintro e w10 ⟨A10, c10, rfl, hr10, hb10⟩
                      have S10 := Lib.hid (S9.out.under HI.out hb10)
                      have B10 := Lib.hid (B9.out.trans (hb10.mono S9.out.below.size))
                      have R10 := Lib.hid hr10
                      clear hr10 hb10)
                   | (go_at_call 11
                      refine (FE2.out w10 S10.out).mono ?_
                      rintro e w11 ⟨A11, c11, rfl, hr11, hb11⟩
                      have S11 := Lib.hid (S10.out.under HI.out hb11)
                      have B11 := Lib.hid (B10.out.trans (hb11.mono S10.out.below.size))
                      have R11 := Lib.hid (And.intro ((R10.out.below hb11).mono hb11.size) hr11)
                      clear hr11 hb11)
                   | (go_at_call 9
                      refine (FK.out w11 A10 A11 c10 c11 R11.out.1 R11.out.2).mono ?_
                      rintro e w12 ⟨rfl, hb12⟩
                      have S12 := Lib.hid (S11.out.under HI.out hb12)
                      have B12 := Lib.hid (B11.out.trans (hb12.mono S11.out.below.size))
                      clear hb12))
          go_wp2_with fail
          go_roundw
          case rel => exact ⟨j + 1, by omega, by go_num, by rw [HG2.out]; exact S12⟩
          case measure => simp [intOf]; omega
        · have hd1 : ¬ (j : Int) < (L.length : Int) := by omega
          obtain rfl : j = L.length := by omega
          rw [List.take_length] at HR2
          generalize setsG L = G at *
          generalize wr = V at *
          have HB0 : Bnd G := by obtain ⟨P4, FP4, q1, q2, q3, q4⟩ := HR2.out; exact q1.bnd
          have hbnd := HB0.1
          obtain ⟨CL, hCL⟩ : ∃ CL, CL = cellsL G := ⟨_, rfl⟩
          obtain ⟨DI, hDI⟩ : ∃ DI, DI = directL hitP G who := ⟨_, rfl⟩
          obtain ⟨RE, hRE⟩ : ∃ RE, RE = reachL hitP G who := ⟨_, rfl⟩
          obtain ⟨LO, hLO⟩ : ∃ LO, LO = loopsL hitP G := ⟨_, rfl⟩
          obtain ⟨OW, hOW⟩ : ∃ OW, OW = orderL hitP G who := ⟨_, rfl⟩
          obtain ⟨OC, hOC⟩ : ∃ OC, OC = orderL hitP G CL := ⟨_, rfl⟩
          have hcl : CL.length ≤ 1000 := by rw [hCL]; unfold cellsL; rw [List.length_map]; exact hbnd
          have hdl : DI.length ≤ 1000 := by rw [hDI]; exact Nat.le_trans (direct_len G who) hbnd
          have hrl : RE.length ≤ 1000 := by rw [hRE]; exact Nat.le_trans (reach_len G who) hbnd
          have hll : LO.length ≤ 1000 := by rw [hLO]; exact Nat.le_trans (loops_len2 G) hbnd
          have hol : OW.length ≤ 1000 := by rw [hOW]; exact Nat.le_trans (order_len2 G who) hbnd
          have hocl : OC.length ≤ 1000 := by rw [hOC]; exact Nat.le_trans (order_len2 G CL) hbnd
          have hwl : who.length ≤ 1000 := by omega
          have FCells := Lib.hid (show ∀ (Z : World), ST K At w Z (.pointer (some pa)) b G G → Calls Tryz.prog 13 #[.pointer (some pa)] Z (CellsPost CL Z) from fun Z hst => by
            obtain ⟨P4, FP4, q1, q2, q3, q4⟩ := hst
            rw [hCL]; exact HI.out.cells q1.at_ q1.bnd q1.srt)
          have RCells := Lib.hid (show ∀ (Z : World), ST K At w Z (.pointer (some pa)) b G G → Calls Tryz.prog 14 #[.pointer (some ⟨b, 0, none⟩)] Z (CellsPost CL Z) from fun Z hst => by
            obtain ⟨P4, FP4, q1, q2, q3, q4⟩ := hst
            rw [hCL]; exact rCells b G Z HB0 q2)
          have FLoops := Lib.hid (show ∀ (Z : World), ST K At w Z (.pointer (some pa)) b G G → Calls Tryz.prog 19 #[.pointer (some pa)] Z (CellsPost LO Z) from fun Z hst => by
            obtain ⟨P4, FP4, q1, q2, q3, q4⟩ := hst
            rw [hLO]; exact HI.out.loops q1.at_ q1.bnd q1.srt)
          have RLoops := Lib.hid (show ∀ (Z : World), ST K At w Z (.pointer (some pa)) b G G → Calls Tryz.prog 20 #[.pointer (some ⟨b, 0, none⟩)] Z (CellsPost LO Z) from fun Z hst => by
            obtain ⟨P4, FP4, q1, q2, q3, q4⟩ := hst
            rw [hLO]; exact rLoops b G Z HB0 q2)
          have FDirect := Lib.hid (show ∀ (Z : World) (A1 : Option Addr) (c1 : Nat), ST K At w Z (.pointer (some pa)) b G G → Reads fP 2 Z Z.heap.size who A1 → Calls Tryz.prog 15 #[.pointer (some pa), .slice A1 who.length c1] Z (CellsPost DI Z) from fun Z A1 c1 hst hr => by
            obtain ⟨P4, FP4, q1, q2, q3, q4⟩ := hst
            rw [hDI]; exact HI.out.direct who A1 c1 q1.at_ q1.bnd q1.srt (by omega) hr)
          have RDirect := Lib.hid (show ∀ (Z : World) (A1 : Option Addr) (c1 : Nat), ST K At w Z (.pointer (some pa)) b G G → Reads fP 2 Z Z.heap.size who A1 → Calls Tryz.prog 16 #[.pointer (some ⟨b, 0, none⟩), .slice A1 who.length c1] Z (CellsPost DI Z) from fun Z A1 c1 hst hr => by
            obtain ⟨P4, FP4, q1, q2, q3, q4⟩ := hst
            rw [hDI]; exact rDirect b G who A1 c1 Z HB0 (by omega) q2 hr)
          have FReach := Lib.hid (show ∀ (Z : World) (A1 : Option Addr) (c1 : Nat), ST K At w Z (.pointer (some pa)) b G G → Reads fP 2 Z Z.heap.size who A1 → Calls Tryz.prog 17 #[.pointer (some pa), .slice A1 who.length c1] Z (CellsPost RE Z) from fun Z A1 c1 hst hr => by
            obtain ⟨P4, FP4, q1, q2, q3, q4⟩ := hst
            rw [hRE]; exact HI.out.reach who A1 c1 q1.at_ q1.bnd q1.srt (by omega) hr)
          have RReach := Lib.hid (show ∀ (Z : World) (A1 : Option Addr) (c1 : Nat), ST K At w Z (.pointer (some pa)) b G G → Reads fP 2 Z Z.heap.size who A1 → Calls Tryz.prog 18 #[.pointer (some ⟨b, 0, none⟩), .slice A1 who.length c1] Z (CellsPost RE Z) from fun Z A1 c1 hst hr => by
            obtain ⟨P4, FP4, q1, q2, q3, q4⟩ := hst
            rw [hRE]; exact rReach b G who A1 c1 Z HB0 (by omega) q2 hr)
          have FOrder := Lib.hid (show ∀ (Z : World) (A1 : Option Addr) (c1 : Nat), ST K At w Z (.pointer (some pa)) b G G → Reads fP 2 Z Z.heap.size who A1 → Calls Tryz.prog 21 #[.pointer (some pa), .slice A1 who.length c1] Z (CellsPost OW Z) from fun Z A1 c1 hst hr => by
            obtain ⟨P4, FP4, q1, q2, q3, q4⟩ := hst
            rw [hOW]; exact HI.out.order who A1 c1 q1.at_ q1.bnd q1.srt (by omega) hr)
          have ROrder := Lib.hid (show ∀ (Z : World) (A1 : Option Addr) (c1 : Nat), ST K At w Z (.pointer (some pa)) b G G → Reads fP 2 Z Z.heap.size who A1 → Calls Tryz.prog 22 #[.pointer (some ⟨b, 0, none⟩), .slice A1 who.length c1] Z (CellsPost OW Z) from fun Z A1 c1 hst hr => by
            obtain ⟨P4, FP4, q1, q2, q3, q4⟩ := hst
            rw [hOW]; exact rOrder b G who A1 c1 Z HB0 (by omega) q2 hr)
          have FOrderC := Lib.hid (show ∀ (Z : World) (A1 : Option Addr) (c1 : Nat), ST K At w Z (.pointer (some pa)) b G G → Reads fP 2 Z Z.heap.size CL A1 → Calls Tryz.prog 21 #[.pointer (some pa), .slice A1 CL.length c1] Z (CellsPost OC Z) from fun Z A1 c1 hst hr => by
            obtain ⟨P4, FP4, q1, q2, q3, q4⟩ := hst
            rw [hOC]; exact HI.out.order CL A1 c1 q1.at_ q1.bnd q1.srt (by omega) hr)
          have ROrderC := Lib.hid (show ∀ (Z : World) (A1 : Option Addr) (c1 : Nat), ST K At w Z (.pointer (some pa)) b G G → Reads fP 2 Z Z.heap.size CL A1 → Calls Tryz.prog 22 #[.pointer (some ⟨b, 0, none⟩), .slice A1 CL.length c1] Z (CellsPost OC Z) from fun Z A1 c1 hst hr => by
            obtain ⟨P4, FP4, q1, q2, q3, q4⟩ := hst
            rw [hOC]; exact rOrder b G CL A1 c1 Z HB0 (by omega) q2 hr)
          have FK := Lib.hid (show ∀ (Z : World) (l : List Pt) (A1 A2 : Option Addr) (c1 c2 : Nat), l.length ≤ 1000 → Reads fP 2 Z Z.heap.size l A1 → Reads fP 2 Z Z.heap.size l A2 → Calls Tryz.prog 12 #[.slice A1 l.length c1, .slice A2 l.length c2] Z (fun e w' => e = .returned (.bool true) ∧ Below Z.heap.size Z w') from fun Z l A1 A2 c1 c2 hl h1 h2 => by
            have h := kAddrs l l A1 A2 c1 c2 Z (by omega) (by omega) h1 h2
            rw [decide_eq_true rfl] at h; exact h)
          have HW9 := Lib.hid (show ∀ Z : World, ST K At w Z (.pointer (some pa)) b G G → Reads fP 2 Z Z.heap.size who WA from fun Z hst => (HWHO.out.below hst.below).mono hst.below.size)
          clear hCL hDI hRE hLO hOW hOC HB0
          go_wp2_with (at_builtin
                       refine wpList_append_owns kindP _ rfl (.tmp 80) (.tmp 81) rfl (l := []) (m := who) (B := V.heap.size) (M := V.heap.size) rfl rfl rfl (Owns.empty V _ (Nat.le_refl _)) ((HW9.out V HR2.out).below ((Below.refl _ _).alloc (Nat.le_refl _) _)) (by simp; omega) (by rw [World.size_alloc]; omega) ?_
                       intro v20 w20 ho20 hg20 hat20
                       have b20 := below_grown ((Below.refl V.heap.size V).alloc (Nat.le_refl _) (.cells #[] 35)) (by rw [World.size_alloc]; omega) hg20 (fun i hi => by cases hi; exact Nat.le_refl _)
                       have S20 := Lib.hid (HR2.out.under HI.out b20)
                       rw [List.nil_append] at ho20
                       obtain ⟨A20, c20, hv20, -⟩ := ho20.form
                       subst hv20
                       have I20 := Lib.hid (ho20.reads kindP.row).2
                       clear ho20 hg20 hat20 b20 HR2)
          refine (FCells.out w20 S20.out).mono ?_; rintro e w21 ⟨v21, rfl, ho21, hb21⟩
          obtain ⟨A21, c21, rfl, -⟩ := ho21.form
          have S21 := Lib.hid (S20.out.under HI.out hb21)
          have I21 := Lib.hid ((I20.out.below hb21).mono hb21.size)
          have X21 := Lib.hid (ho21.reads kindP.row).2
          clear ho21 hb21 S20 I20
          go_wp2_with fail
          refine (RCells.out w21 S21.out).mono ?_; rintro e w22 ⟨v22, rfl, ho22, hb22⟩
          obtain ⟨A22, c22, rfl, -⟩ := ho22.form
          have S22 := Lib.hid (S21.out.under HI.out hb22)
          have I22 := Lib.hid ((I21.out.below hb22).mono hb22.size)
          have X22 := Lib.hid ((X21.out.below hb22).mono hb22.size)
          have Y22 := Lib.hid (ho22.reads kindP.row).2
          clear ho22 hb22 S21 I21 X21
          go_wp2_with fail
          refine (FK.out w22 CL A21 A22 c21 c22 hcl X22.out Y22.out).mono ?_; rintro e w23 ⟨rfl, hb23⟩
          have S23 := Lib.hid (S22.out.under HI.out hb23)
          have I23 := Lib.hid ((I22.out.below hb23).mono hb23.size)
          have X23 := Lib.hid ((X22.out.below hb23).mono hb23.size)
          have Y23 := Lib.hid ((Y22.out.below hb23).mono hb23.size)
          clear hb23 S22 I22 X22 Y22
          go_wp2_with fail
          clear X23 Y23
          refine (FDirect.out w23 A20 c20 S23.out I23.out).mono ?_; rintro e w24 ⟨v24, rfl, ho24, hb24⟩
          obtain ⟨A24, c24, rfl, -⟩ := ho24.form
          have S24 := Lib.hid (S23.out.under HI.out hb24)
          have I24 := Lib.hid ((I23.out.below hb24).mono hb24.size)
          have X24 := Lib.hid (ho24.reads kindP.row).2
          clear ho24 hb24 S23 I23
          go_wp2_with fail
          refine (RDirect.out w24 WA wc S24.out (HW9.out _ S24.out)).mono ?_; rintro e w25 ⟨v25, rfl, ho25, hb25⟩
          obtain ⟨A25, c25, rfl, -⟩ := ho25.form
          have S25 := Lib.hid (S24.out.under HI.out hb25)
          have I25 := Lib.hid ((I24.out.below hb25).mono hb25.size)
          have X25 := Lib.hid ((X24.out.below hb25).mono hb25.size)
          have Y25 := Lib.hid (ho25.reads kindP.row).2
          clear ho25 hb25 S24 I24 X24
          go_wp2_with fail
          refine (FK.out w25 DI A24 A25 c24 c25 hdl X25.out Y25.out).mono ?_; rintro e w26 ⟨rfl, hb26⟩
          have S26 := Lib.hid (S25.out.under HI.out hb26)
          have I26 := Lib.hid ((I25.out.below hb26).mono hb26.size)
          have X26 := Lib.hid ((X25.out.below hb26).mono hb26.size)
          have Y26 := Lib.hid ((Y25.out.below hb26).mono hb26.size)
          clear hb26 S25 I25 X25 Y25
          go_wp2_with fail
          clear X26 Y26
          refine (FReach.out w26 A20 c20 S26.out I26.out).mono ?_; rintro e w27 ⟨v27, rfl, ho27, hb27⟩
          obtain ⟨A27, c27, rfl, -⟩ := ho27.form
          have S27 := Lib.hid (S26.out.under HI.out hb27)
          have I27 := Lib.hid ((I26.out.below hb27).mono hb27.size)
          have X27 := Lib.hid (ho27.reads kindP.row).2
          clear ho27 hb27 S26 I26
          go_wp2_with fail
          refine (RReach.out w27 WA wc S27.out (HW9.out _ S27.out)).mono ?_; rintro e w28 ⟨v28, rfl, ho28, hb28⟩
          obtain ⟨A28, c28, rfl, -⟩ := ho28.form
          have S28 := Lib.hid (S27.out.under HI.out hb28)
          have I28 := Lib.hid ((I27.out.below hb28).mono hb28.size)
          have X28 := Lib.hid ((X27.out.below hb28).mono hb28.size)
          have Y28 := Lib.hid (ho28.reads kindP.row).2
          clear ho28 hb28 S27 I27 X27
          go_wp2_with fail
          refine (FK.out w28 RE A27 A28 c27 c28 hrl X28.out Y28.out).mono ?_; rintro e w29 ⟨rfl, hb29⟩
          have S29 := Lib.hid (S28.out.under HI.out hb29)
          have I29 := Lib.hid ((I28.out.below hb29).mono hb29.size)
          have X29 := Lib.hid ((X28.out.below hb29).mono hb29.size)
          have Y29 := Lib.hid ((Y28.out.below hb29).mono hb29.size)
          clear hb29 S28 I28 X28 Y28
          go_wp2_with fail
          clear X29 Y29
          refine (FLoops.out w29 S29.out).mono ?_; rintro e w30 ⟨v30, rfl, ho30, hb30⟩
          obtain ⟨A30, c30, rfl, -⟩ := ho30.form
          have S30 := Lib.hid (S29.out.under HI.out hb30)
          have I30 := Lib.hid ((I29.out.below hb30).mono hb30.size)
          have X30 := Lib.hid (ho30.reads kindP.row).2
          clear ho30 hb30 S29 I29
          go_wp2_with fail
          refine (RLoops.out w30 S30.out).mono ?_; rintro e w31 ⟨v31, rfl, ho31, hb31⟩
          obtain ⟨A31, c31, rfl, -⟩ := ho31.form
          have S31 := Lib.hid (S30.out.under HI.out hb31)
          have I31 := Lib.hid ((I30.out.below hb31).mono hb31.size)
          have X31 := Lib.hid ((X30.out.below hb31).mono hb31.size)
          have Y31 := Lib.hid (ho31.reads kindP.row).2
          clear ho31 hb31 S30 I30 X30
          go_wp2_with fail
          refine (FK.out w31 LO A30 A31 c30 c31 hll X31.out Y31.out).mono ?_; rintro e w32 ⟨rfl, hb32⟩
          have S32 := Lib.hid (S31.out.under HI.out hb32)
          have I32 := Lib.hid ((I31.out.below hb32).mono hb32.size)
          have X32 := Lib.hid ((X31.out.below hb32).mono hb32.size)
          have Y32 := Lib.hid ((Y31.out.below hb32).mono hb32.size)
          clear hb32 S31 I31 X31 Y31
          go_wp2_with fail
          clear X32 Y32
          refine (FOrder.out w32 A20 c20 S32.out I32.out).mono ?_; rintro e w33 ⟨v33, rfl, ho33, hb33⟩
          obtain ⟨A33, c33, rfl, -⟩ := ho33.form
          have S33 := Lib.hid (S32.out.under HI.out hb33)
          have I33 := Lib.hid ((I32.out.below hb33).mono hb33.size)
          have X33 := Lib.hid (ho33.reads kindP.row).2
          clear ho33 hb33 S32 I32
          go_wp2_with fail
          refine (ROrder.out w33 WA wc S33.out (HW9.out _ S33.out)).mono ?_; rintro e w34 ⟨v34, rfl, ho34, hb34⟩
          obtain ⟨A34, c34, rfl, -⟩ := ho34.form
          have S34 := Lib.hid (S33.out.under HI.out hb34)
          have I34 := Lib.hid ((I33.out.below hb34).mono hb34.size)
          have X34 := Lib.hid ((X33.out.below hb34).mono hb34.size)
          have Y34 := Lib.hid (ho34.reads kindP.row).2
          clear ho34 hb34 S33 I33 X33
          go_wp2_with fail
          refine (FK.out w34 OW A33 A34 c33 c34 hol X34.out Y34.out).mono ?_; rintro e w35 ⟨rfl, hb35⟩
          have S35 := Lib.hid (S34.out.under HI.out hb35)
          have I35 := Lib.hid ((I34.out.below hb35).mono hb35.size)
          have X35 := Lib.hid ((X34.out.below hb35).mono hb35.size)
          have Y35 := Lib.hid ((Y34.out.below hb35).mono hb35.size)
          clear hb35 S34 I34 X34 Y34
          go_wp2_with fail
          clear X35 Y35
          refine (FCells.out w35 S35.out).mono ?_; rintro e w36 ⟨v36, rfl, ho36, hb36⟩
          obtain ⟨A36, c36, rfl, -⟩ := ho36.form
          have S36 := Lib.hid (S35.out.under HI.out hb36)
          have I36 := Lib.hid ((I35.out.below hb36).mono hb36.size)
          have Z36 := Lib.hid (ho36.reads kindP.row).2
          clear ho36 hb36 S35 I35
          go_wp2_with fail
          refine (FOrderC.out w36 A36 c36 S36.out Z36.out).mono ?_; rintro e w37 ⟨v37, rfl, ho37, hb37⟩
          obtain ⟨A37, c37, rfl, -⟩ := ho37.form
          have S37 := Lib.hid (S36.out.under HI.out hb37)
          have I37 := Lib.hid ((I36.out.below hb37).mono hb37.size)
          have Z37 := Lib.hid ((Z36.out.below hb37).mono hb37.size)
          have X37 := Lib.hid (ho37.reads kindP.row).2
          clear ho37 hb37 S36 I36 Z36
          go_wp2_with fail
          refine (RCells.out w37 S37.out).mono ?_; rintro e w38 ⟨v38, rfl, ho38, hb38⟩
          obtain ⟨A38, c38, rfl, -⟩ := ho38.form
          have S38 := Lib.hid (S37.out.under HI.out hb38)
          have I38 := Lib.hid ((I37.out.below hb38).mono hb38.size)
          have Z38 := Lib.hid ((Z37.out.below hb38).mono hb38.size)
          have X38 := Lib.hid ((X37.out.below hb38).mono hb38.size)
          have T38 := Lib.hid (ho38.reads kindP.row).2
          clear ho38 hb38 S37 I37 Z37 X37
          go_wp2_with fail
          refine (ROrderC.out w38 A38 c38 S38.out T38.out).mono ?_; rintro e w39 ⟨v39, rfl, ho39, hb39⟩
          obtain ⟨A39, c39, rfl, -⟩ := ho39.form
          have S39 := Lib.hid (S38.out.under HI.out hb39)
          have I39 := Lib.hid ((I38.out.below hb39).mono hb39.size)
          have Z39 := Lib.hid ((Z38.out.below hb39).mono hb39.size)
          have X39 := Lib.hid ((X38.out.below hb39).mono hb39.size)
          have T39 := Lib.hid ((T38.out.below hb39).mono hb39.size)
          have Y39 := Lib.hid (ho39.reads kindP.row).2
          clear ho39 hb39 S38 I38 Z38 X38 T38
          go_wp2_with fail
          refine (FK.out w39 OC A37 A39 c37 c39 hocl X39.out Y39.out).mono ?_; rintro e w40 ⟨rfl, hb40⟩
          have S40 := Lib.hid (S39.out.under HI.out hb40)
          have I40 := Lib.hid ((I39.out.below hb40).mono hb40.size)
          have Z40 := Lib.hid ((Z39.out.below hb40).mono hb40.size)
          have X40 := Lib.hid ((X39.out.below hb40).mono hb40.size)
          have T40 := Lib.hid ((T39.out.below hb40).mono hb40.size)
          have Y40 := Lib.hid ((Y39.out.below hb40).mono hb40.size)
          clear hb40 S39 I39 Z39 X39 T39 Y39
          go_wp2_with fail
          clear X40 Y40 Z40 T40
          refine (FK.out w40 who A20 WA c20 wc hwl I40.out (HW9.out _ S40.out)).mono ?_; rintro e w41 ⟨rfl, hb41⟩
          have S41 := Lib.hid (S40.out.under HI.out hb41)
          have I41 := Lib.hid ((I40.out.below hb41).mono hb41.size)
          clear hb41 S40 I40
          go_wp2_with fail
          refine (cwakes HI.out w41 (HI.out.keepK HK.out S41.out.below)).mono ?_; rintro e w99 ⟨rfl, hb99⟩
          have B99 := Lib.hid (S41.out.below.trans (hb99.mono S41.out.below.size))
          clear hb99
          go_wp2_with fail
          go_ret
          exact ⟨rfl, B99.out⟩
end Go.Proofs.YtakamedgdiffbaaGreatDoor.GraphC
namespace Go.Proofs.YtakamedgdiffbaaGreatDoor.GraphC
set_option linter.unusedVariables false
open Go.RowKit Go.Proofs.YtakamedgdiffbaaGreatDoor.NumC
open Go.Proofs.YtakamedgdiffbaaGreatDoor.RefsC (Rc hitsL putsL)
open Go.Proofs.YtakamedgdiffbaaGreatDoor.AddrC (cellB fineB beforeB)
def rr (k i : Nat) : Rc := ⟨1 + (nextN k i : Int), 1, 1 + (nextN k i : Int), 1⟩
end Go.Proofs.YtakamedgdiffbaaGreatDoor.GraphC
