/-
  A cell that is set, as plain functions, and what a row of cells says of the graph.
-/
import Derived.Test.YtakamedgdiffbaaDoorPRingGraphE
import Derived.Test.YtakamedgdiffbaaDoorPRingRefsU
import Derived.Test.YtakamedgdiffbaaDoorPRingGraphM
import Derived.Test.YtakamedgdiffbaaDoorPRingRefsM
namespace Go.Proofs.YtakamedgdiffbaaDoor.GraphC
set_option linter.unusedVariables false
open Go.RowKit Go.Proofs.YtakamedgdiffbaaDoor.NumC Go.Proofs.YtakamedgdiffbaaDoor.RowsC
open Go.Proofs.YtakamedgdiffbaaDoor.RefsC (Rc RAt hitsL putL putsL OS)
open Go.Proofs.YtakamedgdiffbaaDoor.AddrC (cellB fineB beforeB)
open Go.Proofs.YtakamedgdiffbaaDoor.TreeC (Kept)
def bfP (x y : Pt) : Bool := beforeB x.r x.c y.r y.c
theorem goesP : Goes bfP where
  irr a := by unfold bfP beforeB; rw [decide_eq_false_iff_not]; omega
  tr a b c h k := by unfold bfP beforeB at *; rw [decide_eq_true_eq] at *; omega
  tot a b h k := by
    unfold bfP beforeB at *
    rw [decide_eq_false_iff_not] at *
    obtain ⟨r, c⟩ := a; obtain ⟨r', c'⟩ := b
    simp only at h k
    have e1 : r = r' := by omega
    have e2 : c = c' := by omega
    rw [e1, e2]
def fineX (x : Rc) : Bool := fineB x.a x.b x.c x.d
def setR (G : Gl) (a : Pt) (l : List Rc) : Int × Gl :=
  if cellB a.r a.c = false then (15, G)
  else if l.all fineX = false then (15, G)
  else if putsL [] l = [] then (0, lessG G a)
  else if 1000 ≤ (lessG G a).length then (3, G)
  else (0, putG bfP (lessG G a) (a, putsL [] l))
theorem less_len (G : Gl) (a : Pt) : (lessG G a).length ≤ G.length := List.length_filter_le _ _
theorem put_le (l : List Rc) (x : Rc) : (putL l x).length ≤ l.length + 1 := by
  induction l with
  | nil => exact Nat.le_refl _
  | cons y l ih =>
    unfold putL
    split
    · simp only [List.length_cons]; omega
    · split <;> simp only [List.length_cons] <;> omega
theorem puts_len (m l : List Rc) : (putsL l m).length ≤ l.length + m.length := by
  induction m generalizing l with
  | nil => exact Nat.le_refl _
  | cons x m ih =>
    have h1 := ih (putL l x)
    have h2 := put_le l x
    show (putsL (putL l x) m).length ≤ _
    rw [List.length_cons]; omega
theorem Bnd.set {G : Gl} (h : Bnd G) (a : Pt) (l : List Rc) (hl : l.length ≤ 1000) : Bnd (setR G a l).2 := by
  have hp := puts_len l []
  have hll := less_len G a
  have hle : ∀ x, x ∈ lessG G a → x.2.length ≤ 1000 := fun x hx => h.2 x (mem_less.1 hx).1
  have h1 := h.1
  unfold setR
  split
  · exact h
  · split
    · exact h
    · split
      · exact ⟨Nat.le_trans hll h1, hle⟩
      · split
        · exact h
        · rename_i h5
          refine ⟨?_, fun x hx => ?_⟩
          · show (putG bfP (lessG G a) (a, putsL [] l)).length ≤ 1000
            unfold putG
            rw [List.length_append, List.length_cons, List.length_take, List.length_drop]
            omega
          · rcases mem_put.1 hx with e | e
            · rw [e]; simp only [List.length_nil] at hp; show (putsL [] l).length ≤ 1000; omega
            · exact hle x e
theorem SrtG.setR {G : Gl} (h : SrtG bfP G) (a : Pt) (l : List Rc) : SrtG bfP (setR G a l).2 := by
  unfold GraphC.setR
  split
  · exact h
  · split
    · exact h
    · split
      · exact h.less a
      · split
        · exact h
        · exact (h.less a).put goesP fun y hy => (mem_less.1 hy).2
/-! Rows and what they say. -/
end Go.Proofs.YtakamedgdiffbaaDoor.GraphC
namespace Go.Proofs.YtakamedgdiffbaaDoor.GraphC
set_option linter.unusedVariables false
open Go.RowKit Go.Proofs.YtakamedgdiffbaaDoor.NumC Go.Proofs.YtakamedgdiffbaaDoor.RowsC
open Go.Proofs.YtakamedgdiffbaaDoor.RefsC (Rc RAt hitsL putL putsL OS)
open Go.Proofs.YtakamedgdiffbaaDoor.TreeC (Kept)
set_option maxRecDepth 100000 in
theorem pCell (r c : Int) (w : World) : Calls Tryd.prog 18 #[.int .i64 r, .int .i64 c] w fun e w' => e = .returned (.agg #[.int .i64 r, .int .i64 c]) ∧ Below w.heap.size w w' := by
  have hz : ∀ o, w.heap.size < (w.alloc o).heap.size := fun o => by simp
  go_enter Tryd.func18, Tryd.ntmps18
  go_wp2
  refine bodyPost_ret (v := .agg #[.int .i64 r, .int .i64 c]) (by simp [results, Tryd.results18, go_sem]) rfl ⟨rfl, ?_⟩
  exact (Below.refl _ w).alloc (Nat.le_refl _) _
set_option maxRecDepth 100000 in
theorem pOne (r c : Int) (w : World) : Calls Tryd.prog 19 #[.int .i64 r, .int .i64 c] w fun e w' => e = .returned (.agg #[.int .i64 r, .int .i64 c, .int .i64 r, .int .i64 c]) ∧ Below w.heap.size w w' := by
  go_enter Tryd.func19, Tryd.ntmps19
  go_wp2_with fail
  refine (pCell r c _).mono ?_; rintro e w1 ⟨rfl, hb1⟩
  have hlt : w.heap.size < (w.alloc (.cells #[.int .i64 0, .int .i64 0, .int .i64 0, .int .i64 0] 44)).heap.size := by simp
  have k0 : w1.cell? ⟨w.heap.size, 0, none⟩ = some (.int .i64 0) := (hb1.cell (p := ⟨_, 0, none⟩) hlt).trans (by simp [go_sem])
  have k1 : w1.cell? ⟨w.heap.size, 1, none⟩ = some (.int .i64 0) := (hb1.cell (p := ⟨_, 1, none⟩) hlt).trans (by simp [go_sem])
  have k2 : w1.cell? ⟨w.heap.size, 2, none⟩ = some (.int .i64 0) := (hb1.cell (p := ⟨_, 2, none⟩) hlt).trans (by simp [go_sem])
  have k3 : w1.cell? ⟨w.heap.size, 3, none⟩ = some (.int .i64 0) := (hb1.cell (p := ⟨_, 3, none⟩) hlt).trans (by simp [go_sem])
  obtain ⟨hc, hf⟩ := bcell hb1
  have f0 : ∀ o, w1.frozen? ⟨w.heap.size, o, none⟩ = false := fun o => (hf _ o hlt).trans (by simp [go_sem])
  have f1 := f0 0
  have f2 := f0 1
  have f3 := f0 2
  have f4 := f0 3
  have hz : w.heap.size < w1.heap.size := Nat.lt_of_lt_of_le hlt hb1.size
  have hne : w.heap.size ≠ w1.heap.size := Nat.ne_of_lt hz
  have hB := below_of hb1
  clear hc hf f0 hb1 hlt
  go_wp2_with fail
  refine bodyPost_ret (v := .agg #[.int .i64 r, .int .i64 c, .int .i64 r, .int .i64 c]) (by simp [results, Tryd.results19, go_sem, hz, k0, k1, k2, k3]) rfl ⟨rfl, ?_⟩
  repeat (first | with_reducible exact hB | with_reducible refine Below.setCell ?_ (by simp <;> omega) _ | with_reducible refine Below.alloc ?_ (by simp <;> omega) _)
structure But (P : Nat → Prop) (w w' : World) : Prop where
  os : w'.os = w.os
  tape : w'.tape = w.tape
  output : w'.output = w.output
  size : w.heap.size ≤ w'.heap.size
  block : ∀ k, k < w.heap.size → ¬ P k → w'.heap[k]? = w.heap[k]?
theorem But.of {P : Nat → Prop} {w w' : World} (h : Below w.heap.size w w') : But P w w' := ⟨h.os, h.tape, h.output, h.size, fun k hk _ => h.block k hk⟩
theorem But.kept {b : Nat} {w w' : World} (h : Kept b w w') : But (fun k => k = b) w w' := ⟨h.os, h.tape, h.output, h.size, fun k hk hn => h.block k hk hn⟩
theorem But.trans {P Q : Nat → Prop} {a b c : World} (h : But P a b) (g : But Q b c) (hq : ∀ k, k < a.heap.size → Q k → P k) : But P a c :=
  ⟨g.os.trans h.os, g.tape.trans h.tape, g.output.trans h.output, Nat.le_trans h.size g.size, fun k hk hn => (g.block k (Nat.lt_of_lt_of_le hk h.size) (fun e => hn (hq k hk e))).trans (h.block k hk hn)⟩
theorem But.cell {P : Nat → Prop} {w w' : World} (h : But P w w') {g o : Nat} {v : Value} (hn : ¬ P g) (hv : w.cell? ⟨g, o, none⟩ = some v) : w'.cell? ⟨g, o, none⟩ = some v :=
  (World.cell?_of_block (h.block g (World.block_lt_of_cell? w ⟨g, o, none⟩ hv) hn)).trans hv
theorem But.below {P : Nat → Prop} {w w' : World} {n : Nat} (h : But P w w') (hn : ∀ k, P k → n ≤ k) (hs : n ≤ w.heap.size) : Below n w w' := ⟨h.os, h.tape, h.output, h.size, fun k hk => h.block k (Nat.lt_of_lt_of_le hk hs) (fun e => by have := hn k e; omega)⟩
def Grew (w w' : World) (P P' : Nat → Prop) : Prop := ∀ k, P' k → P k ∨ (w.heap.size ≤ k ∧ k < w'.heap.size)
abbrev EPost (l : List Rc) (w : World) (e : Ending) (w' : World) : Prop := EdgesPost l w e w'
structure CodeG (K : World → Prop) (At : World → (Nat → Prop) → Value → Gl → Prop) : Prop where
  keepK : ∀ {w w' : World}, K w → Below w.heap.size w w' → K w'
  toK : ∀ {w : World} {P : Nat → Prop} {v : Value} {G : Gl}, At w P v G → K w
  keep : ∀ {w w' : World} {P : Nat → Prop} {v : Value} {G : Gl}, At w P v G → K w' → w.heap.size ≤ w'.heap.size → (∀ k, P k → k < w.heap.size → w'.heap[k]? = w.heap[k]?) → At w' P v G
  ptr : ∀ {w : World} {P : Nat → Prop} {v : Value} {G : Gl}, At w P v G → ∃ a, v = .pointer (some a)
  lt : ∀ {w : World} {P : Nat → Prop} {v : Value} {G : Gl}, At w P v G → ∀ k, P k → k < w.heap.size
  new : ∀ w : World, K w → Calls Tryd.prog 6 #[] w fun e w' => ∃ v P, e = .returned v ∧ At w' P v [] ∧ (∀ k, P k → w.heap.size ≤ k) ∧ Below w.heap.size w w'
  set : ∀ {w : World} {P : Nat → Prop} {v : Value} {G : Gl} (a : Pt) (l : List Rc) (A : Option Addr) (c : Nat), At w P v G → Bnd G → SrtG bfP G → l.length ≤ 12 → RAt w w.heap.size l A → (l ≠ [] → ∀ x, A = some x → ¬ P x.block) →
    Calls Tryd.prog 9 #[v, .agg #[.int .i64 a.r, .int .i64 a.c], .slice A l.length c] w fun e w' => e = .returned (.int .i64 (setR G a l).1) ∧ But P w w' ∧ ∃ P', At w' P' v (setR G a l).2 ∧ Grew w w' P P'
  edges : ∀ {w : World} {P : Nat → Prop} {v : Value} {G : Gl} (a : Pt), At w P v G → Bnd G → SrtG bfP G → Calls Tryd.prog 17 #[v, .agg #[.int .i64 a.r, .int .i64 a.c]] w (EPost (edgesG [] G a) w)
  cells : ∀ {w : World} {P : Nat → Prop} {v : Value} {G : Gl}, At w P v G → Bnd G → SrtG bfP G → Calls Tryd.prog 13 #[v] w (CellsPost (cellsL G) w)
  direct : ∀ {w : World} {P : Nat → Prop} {v : Value} {G : Gl} (l : List Pt) (A : Option Addr) (c : Nat), At w P v G → Bnd G → SrtG bfP G → l.length ≤ 100000 → Reads fP 2 w w.heap.size l A → Calls Tryd.prog 11 #[v, .slice A l.length c] w (CellsPost (directL hitP G l) w)
  reach : ∀ {w : World} {P : Nat → Prop} {v : Value} {G : Gl} (l : List Pt) (A : Option Addr) (c : Nat), At w P v G → Bnd G → SrtG bfP G → l.length ≤ 100000 → Reads fP 2 w w.heap.size l A → Calls Tryd.prog 10 #[v, .slice A l.length c] w (CellsPost (reachL hitP G l) w)
  loops : ∀ {w : World} {P : Nat → Prop} {v : Value} {G : Gl}, At w P v G → Bnd G → SrtG bfP G → Calls Tryd.prog 14 #[v] w (CellsPost (loopsL hitP G) w)
  order : ∀ {w : World} {P : Nat → Prop} {v : Value} {G : Gl} (l : List Pt) (A : Option Addr) (c : Nat), At w P v G → Bnd G → SrtG bfP G → l.length ≤ 100000 → Reads fP 2 w w.heap.size l A → Calls Tryd.prog 15 #[v, .slice A l.length c] w (CellsPost (orderL hitP G l) w)
theorem CodeG.below {At : World → (Nat → Prop) → Value → Gl → Prop} {K : World → Prop} (I : CodeG K At) {w w' : World} {P : Nat → Prop} {v : Value} {G : Gl} (h : At w P v G) (hb : Below w.heap.size w w') : At w' P v G := I.keep h (I.keepK (I.toK h) hb) hb.size fun k _ hk => hb.block k hk
end Go.Proofs.YtakamedgdiffbaaDoor.GraphC
namespace Go.Proofs.YtakamedgdiffbaaDoor.GraphC
set_option linter.unusedVariables false
open Go.RowKit Go.Proofs.YtakamedgdiffbaaDoor.NumC Go.Proofs.YtakamedgdiffbaaDoor.RowsC
open Go.Proofs.YtakamedgdiffbaaDoor.RefsC (Rc RAt hitsL putL putsL OS RBox box_rat)
open Go.Proofs.YtakamedgdiffbaaDoor.TreeC (Kept)
variable {K : World → Prop} {At : World → (Nat → Prop) → Value → Gl → Prop}
structure WSt (K : World → Prop) (At : World → (Nat → Prop) → Value → Gl → Prop) (w wi : World) (P : Nat → Prop) (v : Value) (G : Gl) : Prop where
  at_ : At wi P v G
  own : ∀ k, P k → w.heap.size ≤ k
  below : Below w.heap.size w wi
  bnd : Bnd G
  srt : SrtG bfP G
  kw : K w
theorem WSt.under (I : CodeG K At) {w wi wj : World} {P : Nat → Prop} {v : Value} {G : Gl} (h : WSt K At w wi P v G) (hb : Below wi.heap.size wi wj) : WSt K At w wj P v G :=
  { h with at_ := I.below h.at_ hb, below := h.below.trans (hb.mono h.below.size) }
theorem WSt.set {w wi wj : World} {P P' : Nat → Prop} {v : Value} {G : Gl} (h : WSt K At w wi P v G) (a : Pt) (l : List Rc) (hl : l.length ≤ 1000) (hb : But P wi wj) (hat : At wj P' v (setR G a l).2) (hg : Grew wi wj P P') : WSt K At w wj P' v (setR G a l).2 where
  at_ := hat
  own k hk := by
    rcases hg k hk with e | e
    · exact h.own k e
    · exact Nat.le_trans h.below.size e.1
  below := h.below.trans (hb.below h.own h.below.size)
  bnd := h.bnd.set a l hl
  srt := h.srt.setR a l
  kw := h.kw
theorem bnd_nil : Bnd [] := ⟨Nat.zero_le _, fun x h => by cases h⟩
theorem srt_nil : SrtG bfP ([] : Gl) := List.Pairwise.nil
theorem k_set1 : setR [] ⟨1, 2⟩ [⟨1, 1, 1, 1⟩] = (0, [(⟨1, 2⟩, [⟨1, 1, 1, 1⟩])]) := by kernel_rfl
theorem k_set2 : setR [(⟨1, 2⟩, [⟨1, 1, 1, 1⟩])] ⟨1, 3⟩ [⟨1, 2, 1, 2⟩] = (0, [(⟨1, 2⟩, [⟨1, 1, 1, 1⟩]), (⟨1, 3⟩, [⟨1, 2, 1, 2⟩])]) := by kernel_rfl
def wkG : Gl := [(⟨1, 2⟩, [⟨1, 1, 1, 1⟩]), (⟨1, 3⟩, [⟨1, 2, 1, 2⟩])]
theorem k_reach : reachL hitP wkG [⟨1, 1⟩] = [⟨1, 2⟩, ⟨1, 3⟩] := by kernel_rfl
theorem k_direct : directL hitP wkG [⟨1, 1⟩] = [⟨1, 2⟩] := by kernel_rfl
theorem k_loops : loopsL hitP wkG = [] := by kernel_rfl
theorem k_order : orderL hitP wkG [⟨1, 2⟩, ⟨1, 3⟩] = [⟨1, 2⟩, ⟨1, 3⟩] := by kernel_rfl
theorem k_cells : cellsL wkG = [⟨1, 2⟩, ⟨1, 3⟩] := by kernel_rfl
theorem pt_reads0 (w : World) (x : Pt) : Reads fP 2 (w.alloc (.cells #[.int .i64 x.r, .int .i64 x.c] 24)) (w.alloc (.cells #[.int .i64 x.r, .int .i64 x.c] 24)).heap.size [x] (some ⟨w.heap.size, 0, none⟩) :=
  Boxed.reads (f := fP) (ty := 24) (Boxed.new w x)
set_option maxHeartbeats 4000000 in
set_option maxRecDepth 100000 in
theorem cwakes (I : CodeG K At) (w : World) (hK : K w) : Calls Tryd.prog 8 #[] w fun e w' => e = .returned (.bool true) ∧ Below w.heap.size w w' := by
  have HI := Lib.hid I
  clear I
  go_enter Tryd.func8, Tryd.ntmps8
  go_wp2_with fail
  refine (HI.out.new w hK).mono ?_; rintro e w1 ⟨v, P, rfl, hat, hP, hb1⟩
  obtain ⟨a, rfl⟩ := HI.out.ptr hat
  have H1 := Lib.hid (show WSt K At w w1 P (.pointer (some a)) [] from ⟨hat, hP, hb1, bnd_nil, srt_nil, hK⟩)
  clear hat hP hb1 hK
  go_wp2_with fail
  refine (pCell 1 2 w1).mono ?_; rintro e w2 ⟨rfl, hb2⟩
  have H2 := Lib.hid (H1.out.under HI.out hb2)
  clear hb2 H1
  go_wp2_with fail
  refine (pOne 1 1 w2).mono ?_; rintro e w3 ⟨rfl, hb3⟩
  have H3 := Lib.hid (H2.out.under HI.out hb3)
  clear hb3 H2
  have b4 : Below w3.heap.size w3 (w3.alloc (.cells #[.int .i64 1, .int .i64 1, .int .i64 1, .int .i64 1] 44)) := (Below.refl _ _).alloc (Nat.le_refl _) _
  have H4 := Lib.hid (H3.out.under HI.out b4)
  have hcall := HI.out.set ⟨1, 2⟩ [⟨1, 1, 1, 1⟩] (some ⟨w3.heap.size, 0, none⟩) 1 H4.out.at_ H4.out.bnd H4.out.srt (by decide) (box_rat (RBox.new w3 ⟨1, 1, 1, 1⟩)) (fun _ x hx hp => by cases hx; exact Nat.lt_irrefl _ (HI.out.lt H3.out.at_ _ hp))
  rw [k_set1] at hcall
  clear b4
  go_wp2_with fail
  refine hcall.mono ?_; rintro e w5 ⟨rfl, hb5, P1, hat5, hg5⟩
  have H5 : Hid (WSt K At w w5 P1 (.pointer (some a)) [(⟨1, 2⟩, [⟨1, 1, 1, 1⟩])]) := Lib.hid (by
    have h := H4.out.set ⟨1, 2⟩ [⟨1, 1, 1, 1⟩] (by decide) hb5 (by rw [k_set1]; exact hat5) hg5
    rw [k_set1] at h; exact h)
  clear hb5 hat5 hg5 hcall H3 H4
  go_wp2_with fail
  refine (pCell 1 3 w5).mono ?_; rintro e w6 ⟨rfl, hb6⟩
  have H6 := Lib.hid (H5.out.under HI.out hb6)
  clear hb6 H5
  go_wp2_with fail
  refine (pOne 1 2 w6).mono ?_; rintro e w7 ⟨rfl, hb7⟩
  have H7 := Lib.hid (H6.out.under HI.out hb7)
  clear hb7 H6
  have b8 : Below w7.heap.size w7 (w7.alloc (.cells #[.int .i64 1, .int .i64 2, .int .i64 1, .int .i64 2] 44)) := (Below.refl _ _).alloc (Nat.le_refl _) _
  have H8 := Lib.hid (H7.out.under HI.out b8)
  have hcall := HI.out.set ⟨1, 3⟩ [⟨1, 2, 1, 2⟩] (some ⟨w7.heap.size, 0, none⟩) 1 H8.out.at_ H8.out.bnd H8.out.srt (by decide) (box_rat (RBox.new w7 ⟨1, 2, 1, 2⟩)) (fun _ x hx hp => by cases hx; exact Nat.lt_irrefl _ (HI.out.lt H7.out.at_ _ hp))
  rw [k_set2] at hcall
  clear b8
  go_wp2_with fail
  refine hcall.mono ?_; rintro e w9 ⟨rfl, hb9, P2, hat9, hg9⟩
  have H9 : Hid (WSt K At w w9 P2 (.pointer (some a)) wkG) := Lib.hid (by
    have h := H8.out.set ⟨1, 3⟩ [⟨1, 2, 1, 2⟩] (by decide) hb9 (by rw [k_set2]; exact hat9) hg9
    rw [k_set2] at h; exact h)
  clear hb9 hat9 hg9 hcall H7 H8
  go_wp2_with fail
  refine (pCell 1 1 w9).mono ?_; rintro e w10 ⟨rfl, hb10⟩
  have H10 := Lib.hid (H9.out.under HI.out hb10)
  clear hb10 H9
  have b11 : Below w10.heap.size w10 (w10.alloc (.cells #[.int .i64 1, .int .i64 1] 24)) := (Below.refl _ _).alloc (Nat.le_refl _) _
  have H11 := Lib.hid (H10.out.under HI.out b11)
  have hcall := HI.out.reach [⟨1, 1⟩] (some ⟨w10.heap.size, 0, none⟩) 1 H11.out.at_ H11.out.bnd H11.out.srt (by decide) (pt_reads0 w10 ⟨1, 1⟩)
  rw [k_reach] at hcall
  clear b11
  go_wp2_with fail
  refine hcall.mono ?_; rintro e w12 ⟨v12, rfl, ho12, hb12⟩
  obtain ⟨A12, c12, rfl, -⟩ := ho12.form
  have H12 := Lib.hid (H11.out.under HI.out hb12)
  have R12 := Lib.hid (ho12.reads kindP.row).2
  obtain ⟨g, o, rfl, -, f0, f1⟩ := Reads.pt R12.out 1 ⟨1, 3⟩ rfl
  clear ho12 hb12 hcall H10 H11
  go_wp2_with fail
  refine (pCell 1 1 w12).mono ?_; rintro e w13 ⟨rfl, hb13⟩
  have H13 := Lib.hid (H12.out.under HI.out hb13)
  have R13 := Lib.hid ((R12.out.below hb13).mono hb13.size)
  clear hb13 H12 f0 f1
  have b14 : Below w13.heap.size w13 (w13.alloc (.cells #[.int .i64 1, .int .i64 1] 24)) := (Below.refl _ _).alloc (Nat.le_refl _) _
  have H14 := Lib.hid (H13.out.under HI.out b14)
  have R14 := Lib.hid ((R13.out.below b14).mono b14.size)
  have hcall := HI.out.direct [⟨1, 1⟩] (some ⟨w13.heap.size, 0, none⟩) 1 H14.out.at_ H14.out.bnd H14.out.srt (by decide) (pt_reads0 w13 ⟨1, 1⟩)
  rw [k_direct] at hcall
  clear b14
  go_wp2_with fail
  refine hcall.mono ?_; rintro e w15 ⟨v15, rfl, ho15, hb15⟩
  obtain ⟨A15, c15, rfl, -⟩ := ho15.form
  have H15 := Lib.hid (H14.out.under HI.out hb15)
  have R15 := Lib.hid ((R14.out.below hb15).mono hb15.size)
  clear ho15 hb15 hcall H13 H14 R14 R13
  have hcall := HI.out.loops H15.out.at_ H15.out.bnd H15.out.srt
  rw [k_loops] at hcall
  go_wp2_with fail
  refine hcall.mono ?_; rintro e w16 ⟨v16, rfl, ho16, hb16⟩
  obtain ⟨A16, c16, rfl, -⟩ := ho16.form
  have H16 := Lib.hid (H15.out.under HI.out hb16)
  have R16 := Lib.hid ((R15.out.below hb16).mono hb16.size)
  clear ho16 hb16 hcall H15 R15
  have hcall := HI.out.order [⟨1, 2⟩, ⟨1, 3⟩] (some ⟨g, o, none⟩) c12 H16.out.at_ H16.out.bnd H16.out.srt (by decide) R16.out
  rw [k_order] at hcall
  go_wp2_with fail
  refine hcall.mono ?_; rintro e w17 ⟨v17, rfl, ho17, hb17⟩
  obtain ⟨A17, c17, rfl, -⟩ := ho17.form
  have H17 := Lib.hid (H16.out.under HI.out hb17)
  clear ho17 hb17 hcall H16 R16
  have hcall := HI.out.cells H17.out.at_ H17.out.bnd H17.out.srt
  rw [k_cells] at hcall
  go_wp2_with fail
  refine hcall.mono ?_; rintro e w18 ⟨v18, rfl, ho18, hb18⟩
  obtain ⟨A18, c18, rfl, -⟩ := ho18.form
  have H18 := Lib.hid (H17.out.under HI.out hb18)
  clear ho18 hb18 hcall H17
  go_wp2_with fail
  go_ret
  exact ⟨rfl, H18.out.below⟩
end Go.Proofs.YtakamedgdiffbaaDoor.GraphC
namespace Go.Proofs.YtakamedgdiffbaaDoor.GraphC
set_option linter.unusedVariables false
open Go.RowKit Go.Proofs.YtakamedgdiffbaaDoor.NumC Go.Proofs.YtakamedgdiffbaaDoor.RowsC
open Go.Proofs.YtakamedgdiffbaaDoor.RefsC (Rc RAt hitsL putL putsL OS RBox box_rat)
open Go.Proofs.YtakamedgdiffbaaDoor.TreeC (Kept)
def fR (x : Rc) : List Value := [.int .i64 x.a, .int .i64 x.b, .int .i64 x.c, .int .i64 x.d]
theorem kindR : Kind fR 4 31 44 where
  row := ⟨fun _ => rfl, fun x u hu => by
    simp only [fR, List.mem_cons, List.not_mem_nil, or_false] at hu
    rcases hu with rfl | rfl | rfl | rfl <;> rfl, by decide⟩
  under := Tryd.underlying31
  info := ⟨.agg #[.int .i64 0, .int .i64 0, .int .i64 0, .int .i64 0], 32, by kernel_rfl, rfl, by decide⟩
theorem reads_rat {w : World} {B : Nat} {l : List Rc} {A : Option Addr} (h : Reads fR 4 w B l A) : RAt w B l A := by
  rcases h with h | ⟨g, o, e, hg, h⟩
  · exact Or.inl h
  · exact Or.inr ⟨g, o, e, hg, fun i x hx => ⟨h i x hx 0 _ rfl, h i x hx 1 _ rfl, h i x hx 2 _ rfl, h i x hx 3 _ rfl⟩⟩
theorem rat_reads {w : World} {B : Nat} {l : List Rc} {A : Option Addr} (h : RAt w B l A) : Reads fR 4 w B l A := by
  rcases h with h | ⟨g, o, e, hg, h⟩
  · exact Or.inl h
  · refine Or.inr ⟨g, o, e, hg, fun i x hx j u hj => ?_⟩
    obtain ⟨c0, c1, c2, c3⟩ := h i x hx
    match j, hj with
    | 0, hj => cases hj; exact c0
    | 1, hj => cases hj; exact c1
    | 2, hj => cases hj; exact c2
    | 3, hj => cases hj; exact c3
variable {K : World → Prop} {At : World → (Nat → Prop) → Value → Gl → Prop}
theorem edges_len {G : Gl} (h : Bnd G) (a : Pt) : (edgesG [] G a).length ≤ 1000 := by
  unfold edgesG
  split
  · rename_i x hx; exact h.2 x (List.mem_of_find?_eq_some hx)
  · exact Nat.zero_le _
end Go.Proofs.YtakamedgdiffbaaDoor.GraphC
namespace Go.Proofs.YtakamedgdiffbaaDoor.GraphC
set_option linter.unusedVariables false
open Go.RowKit Go.Proofs.YtakamedgdiffbaaDoor.NumC
open Go.Proofs.YtakamedgdiffbaaDoor.RefsC (Rc hitsL putsL)
open Go.Proofs.YtakamedgdiffbaaDoor.AddrC (cellB fineB beforeB)
def rc (i : Nat) : Pt := ⟨1 + (i : Int), 1⟩
def rr (k i : Nat) : Rc := ⟨1 + (nextN k i : Int), 1, 1 + (nextN k i : Int), 1⟩
def re (k i : Nat) : List Rc := [rr k i]
theorem rc_inj {a b : Nat} (h : rc a = rc b) : a = b := by
  unfold rc at h
  injection h with h1 _
  omega
theorem cell_one {x : Int} (h1 : 1 ≤ x) (h2 : x ≤ 1000) : AddrC.Cell x 1 := ⟨⟨h1, h2⟩, by decide⟩
theorem rc_cell {i : Nat} (hi : i < 1000) : cellB (rc i).r (rc i).c = true := AddrC.cellB_t (show AddrC.Cell (1 + (i : Int)) 1 from cell_one (by omega) (by omega))
theorem rr_fineP {k i : Nat} (hk : k ≤ 1000) (hi : i < k) : AddrC.FineP (1 + (nextN k i : Int)) 1 (1 + (nextN k i : Int)) 1 := by
  have := next_lt hi
  exact ⟨cell_one (by omega) (by omega), cell_one (by omega) (by omega), Int.le_refl _, Int.le_refl _⟩
theorem rr_fine {k i : Nat} (hk : k ≤ 1000) (hi : i < k) : fineX (rr k i) = true := decide_eq_true (rr_fineP hk hi)
theorem hit_ring {k : Nat} (hk : k ≤ 1000) (i : Nat) (a : Pt) (hi : i < k) : hitP (re k i) a = true ↔ a = rc (nextN k i) := by
  obtain ⟨r, c⟩ := a
  have e : hitP (re k i) ⟨r, c⟩ = decide (AddrC.HasP (1 + (nextN k i : Int)) 1 (1 + (nextN k i : Int)) 1 r c) := by
    unfold hitP hitsL re rr
    simp only [List.any_cons, List.any_nil, Bool.or_false]
    rfl
  rw [e, decide_eq_true_eq]
  unfold AddrC.HasP rc
  constructor
  · rintro ⟨-, h1, h2, h3, h4⟩
    rw [show r = 1 + (nextN k i : Int) by omega, show c = 1 by omega]
  · intro h
    injection h with h1 h2
    subst h1 h2
    exact ⟨rr_fineP hk hi, Int.le_refl _, Int.le_refl _, Int.le_refl _, Int.le_refl _⟩
theorem ring_set {k i : Nat} (hk : k ≤ 900) (hi : i < k) : setR (ringG rc (re k) i) (rc i) (re k i) = (0, ringG rc (re k) (i + 1)) := by
  have hp : putsL [] (re k i) = re k i := rfl
  have hless : lessG (ringG rc (re k) i) (rc i) = ringG rc (re k) i := by
    unfold lessG
    apply List.filter_eq_self.2
    intro x hx
    obtain ⟨j, hj, e⟩ := (mem_ring rc (re k)).1 hx
    subst e
    rw [decide_eq_true_eq]
    intro e
    have := rc_inj e
    omega
  have hlen : (ringG rc (re k) i).length = i := by unfold ringG; rw [List.length_map, List.length_range]
  have hfine : (re k i).all fineX = true := by
    unfold re
    rw [List.all_cons, rr_fine (by omega) hi]; rfl
  unfold setR
  rw [if_neg (by rw [rc_cell (by omega)]; decide), if_neg (by rw [hfine]; decide), hp, if_neg (by unfold re; simp), hless, hlen, if_neg (by omega)]
  congr 1
  rw [put_last]
  · unfold ringG
    rw [List.range_succ, List.map_append]; rfl
  · intro y hy
    obtain ⟨j, hj, e⟩ := (mem_ring rc (re k)).1 hy
    subst e
    unfold bfP AddrC.beforeB rc
    rw [decide_eq_true_eq]
    left
    simp only
    omega
theorem ring_cut {k j : Nat} (hk : k ≤ 900) (hj : j < k) : setR (ringG rc (re k) k) (rc j) [] = (0, cutG rc (re k) k j) := by
  have hless : lessG (ringG rc (re k) k) (rc j) = cutG rc (re k) k j := by
    unfold lessG ringG cutG
    rw [List.filter_map]
    congr 1
    apply List.filter_congr
    intro x hx
    simp only [Function.comp]
    rw [decide_eq_decide]
    exact ⟨fun h e => h (by rw [e]), fun h e => h (rc_inj e)⟩
  unfold setR
  rw [if_neg (by rw [rc_cell (by omega)]; decide), if_neg (by decide), if_pos (show putsL [] [] = [] from rfl), hless]
end Go.Proofs.YtakamedgdiffbaaDoor.GraphC
namespace Go.Proofs.YtakamedgdiffbaaDoor.GraphC
set_option linter.unusedVariables false
open Go.RowKit Go.Proofs.YtakamedgdiffbaaDoor.NumC Go.Proofs.YtakamedgdiffbaaDoor.RowsC
open Go.Proofs.YtakamedgdiffbaaDoor.RefsC (Rc RAt hitsL putL putsL OS RBox box_rat)
variable {K : World → Prop} {At : World → (Nat → Prop) → Value → Gl → Prop}
theorem below_then2 {V Z Z' : World} (h : Below V.heap.size V Z) (g : Below Z.heap.size Z Z') : Below V.heap.size V Z' := h.trans (g.mono h.size)
set_option maxHeartbeats 8000000 in
set_option maxRecDepth 100000 in
theorem graphRing (I : CodeG K At) (n m : Nat) (w : World) (hK : K w) (hn : n < 256) (hm : m < 256) :
    Calls Tryd.prog 5 #[.int .u8 (n : Nat), .int .u8 (m : Nat)] w fun e w' => e = .returned (.bool true) ∧ Below w.heap.size w w' := by
  have HI := Lib.hid I
  obtain ⟨k, hk⟩ : ∃ k, k = 2 + n % 12 := ⟨_, rfl⟩
  have hk2 : 2 ≤ k := by omega
  have hk13 : k ≤ 13 := by omega
  obtain ⟨j, hj⟩ : ∃ j, j = m % k := ⟨_, rfl⟩
  have hjk : j < k := by rw [hj]; exact Nat.mod_lt _ (by omega)
  have r1 : 2 + (n : Int) % 12 = (k : Int) := by omega
  have R2 := Lib.hid (show (m : Int) % (k : Int) = (j : Int) from by rw [hj]; exact (Int.natCast_emod m k).symm)
  have hkz : ¬ (k : Int) = 0 := by omega
  clear I hk hj
  go_enter Tryd.func5, Tryd.ntmps5
  go_wp2_with fail
  refine (HI.out.new w hK).mono ?_; rintro e w1 ⟨v, P, rfl, hat, hP, hb1⟩
  obtain ⟨pa, rfl⟩ := HI.out.ptr hat
  have H1 := Lib.hid (show WSt K At w w1 P (.pointer (some pa)) [] from ⟨hat, hP, hb1, bnd_nil, srt_nil, hK⟩)
  clear hat hP hb1 hK
  go_wp2_with fail
  clear r1
  have hz0 : ringG rc (re k) 0 = [] := rfl
  go_loopw [7] (fun iv wr => ∃ i : Nat, i ≤ k ∧ iv = .int .i64 i ∧ Hid (∃ P, WSt K At w wr P (.pointer (some pa)) (ringG rc (re k) i))) (fun iv _ => k - (intOf iv).toNat)
  case atStart => exact ⟨0, Nat.zero_le _, rfl, Lib.hid ⟨P, H1.out⟩⟩
  case round =>
    obtain ⟨i, hi0, rfl, HR2⟩ := hrel
    obtain ⟨P1, hR⟩ := HR2.out
    have HR := Lib.hid hR
    clear hR HR2
    by_cases hi : i < k
    · have hd1 : (i : Int) < (k : Int) := by omega
      have hnx := next_lt hi
      have e1 : ((i : Int) + 1) % (k : Int) = ((nextN k i : Nat) : Int) := by
        rw [← next_mod hi]
        have := Int.natCast_emod (i + 1) k
        rw [this]; rfl
      have e2 : Int.tmod ((i : Int) + 1) (k : Int) = ((nextN k i : Nat) : Int) := by rw [Int.tmod_eq_emod_of_nonneg (by omega)]; exact e1
      have e3 : IntKind.i64.wrap ((i : Int) + 1) = (i : Int) + 1 := by rw [IntKind.wrap_i64]; omega
      have e4 : IntKind.i64.wrap (1 + ((nextN k i : Nat) : Int)) = 1 + ((nextN k i : Nat) : Int) := by rw [IntKind.wrap_i64]; omega
      have e5 : IntKind.i64.wrap (1 + (i : Int)) = 1 + (i : Int) := by rw [IntKind.wrap_i64]; omega
      have hkz2 : ¬ k = 0 := by omega
      have hkz3 : ((k : Int) == 0) = false := by simp; omega
      have HSET := Lib.hid (show ∀ (Z : World) (q : Nat), Below wr.heap.size wr Z → wr.heap.size ≤ q → RBox Z q (rr k i) → Calls Tryd.prog 9 #[.pointer (some pa), .agg #[.int .i64 (1 + (i : Int)), .int .i64 1], .slice (some ⟨q, 0, none⟩) 1 1] Z (fun e w' => e = .returned (.int .i64 0) ∧ ∃ P, WSt K At w w' P (.pointer (some pa)) (ringG rc (re k) (i + 1))) from fun Z q hz hq hx => by
        have hs := HR.out.under HI.out hz
        have h := HI.out.set (rc i) (re k i) (some ⟨q, 0, none⟩) 1 hs.at_ hs.bnd hs.srt (by unfold re; simp) (box_rat hx) (fun _ x ex hp => by cases ex; exact absurd (HI.out.lt HR.out.at_ _ hp) (Nat.not_lt.2 hq))
        rw [ring_set (by omega) hi] at h
        refine h.mono ?_
        rintro e w' ⟨rfl, hb, P2, hat, hg⟩
        refine ⟨rfl, P2, ?_⟩
        have := hs.set (rc i) (re k i) (by unfold re; simp) hb (by rw [ring_set (by omega) hi]; exact hat) hg
        rw [ring_set (by omega) hi] at this
        exact this)
      go_wp2_with fail
      go_region_held3 (fun _ => True) (trivial)
        (first | (go_at_call 18
                  refine (pCell (1 + (i : Int)) 1 _).mono ?_
                  rintro e wa ⟨rfl, hba⟩
                  have HA := Lib.hid (show Below wr.heap.size wr wa from by first | exact (below_d (Below.refl _ wr)).trans hba | exact hba)
                  clear hba)
               | (go_at_call 19
                  refine (pOne (1 + ((nextN k i : Nat) : Int)) 1 _).mono ?_
                  rintro e wb ⟨rfl, hbb⟩
                  have HB := Lib.hid (below_then2 HA.out hbb)
                  clear hbb)
               | (go_at_call 9
                  refine (HSET.out (wb.alloc (.cells #[.int .i64 (1 + ((nextN k i : Nat) : Int)), .int .i64 1, .int .i64 (1 + ((nextN k i : Nat) : Int)), .int .i64 1] 44)) wb.heap.size (HB.out.alloc HB.out.size _) HB.out.size (RBox.new wb (rr k i))).mono ?_
                  rintro e wc ⟨rfl, hsc⟩
                  have HC := Lib.hid hsc
                  clear hsc))
      go_wp2_with fail
      go_roundw
      case rel => exact ⟨i + 1, by omega, by go_num, HC⟩
      case measure => simp [intOf]; omega
    · have hd1 : ¬ (i : Int) < (k : Int) := by omega
      have hik : k = i := by omega
      subst hik
      have he : ∀ i, i < k → hitP (re k i) (rc (nextN k i)) = true := fun i hi => (hit_ring (by omega) i _ hi).2 rfl
      have heI : ∀ i a, i < k → (hitP (re k i) a = true ↔ a = rc (nextN k i)) := fun i a hi => hit_ring (by omega) i a hi
      have hinj : ∀ a b, a < k → b < k → rc a = rc b → a = b := fun a b _ _ e => rc_inj e
      have k1 := ring_loops he
      have k2 := ring_reach he (b := 0) (by omega)
      have k3 := fun l => ring_order he l
      have k4 := cut_loops hjk hinj heI
      have k5 := cut_len (c := rc) (e := re k) hjk
      have k6 := cut_order hjk hinj heI
      obtain ⟨RL, hRL⟩ : ∃ RL, RL = (List.range k).map rc := ⟨_, rfl⟩
      have hRLl : RL.length = k := by rw [hRL, List.length_map, List.length_range]
      rw [← hRL] at k1 k2
      have hRC : cellsL (ringG rc (re k) k) = RL := by rw [cells_ring, hRL]
      obtain ⟨CC, hCC⟩ : ∃ CC, CC = cellsL (cutG rc (re k) k j) := ⟨_, rfl⟩
      obtain ⟨O, hO⟩ : ∃ O, O = (List.range (k - 1)).map fun q => rc (farN k j q) := ⟨_, rfl⟩
      rw [← hCC, ← hO] at k6
      rw [← hCC] at k5
      have hOl : O.length = k - 1 := by rw [hO, List.length_map, List.length_range]
      have HAT := Lib.hid (show ∀ q x, O[q]? = some x → x = rc (farN k j q) from fun q x hx => by
        rw [hO, List.getElem?_map] at hx
        cases hr : (List.range (k - 1))[q]? with
        | none => rw [hr] at hx; cases hx
        | some y =>
          rw [hr] at hx
          obtain ⟨h1, h2⟩ := List.getElem?_eq_some_iff.1 hr
          rw [List.getElem_range] at h2
          cases hx
          rw [← h2])
      have HCUT := Lib.hid (ring_cut (k := k) (j := j) (by omega) hjk)
      have HK1 := Lib.hid k1
      have HK2 := Lib.hid k2
      have HK3 := Lib.hid k3
      have HK4 := Lib.hid k4
      have HK6 := Lib.hid k6
      have HRC := Lib.hid hRC
      have HCC := Lib.hid hCC
      have HRLl := Lib.hid hRLl
      have HOl := Lib.hid hOl
      have HCl := Lib.hid k5
      clear he heI hinj k1 k2 k3 k4 k5 k6 hRL hRLl hRC hCC hO hOl hz0 hd1 hi hi0
      generalize ringG rc (re k) k = G at *
      generalize cutG rc (re k) k j = H at *
      have hcall := HI.out.loops HR.out.at_ HR.out.bnd HR.out.srt
      rw [HK1.out] at hcall
      go_wp2_with fail
      refine hcall.mono ?_; rintro e w2 ⟨v2, rfl, ho2, hb2⟩
      obtain ⟨A2, c2, rfl, -⟩ := ho2.form
      have H2 := Lib.hid (HR.out.under HI.out hb2)
      have hl2 : ((RL.length : Int) != (k : Int)) = false := by rw [HRLl.out]; simp
      clear hcall hb2 ho2
      go_wp2_with fail
      refine (pCell 1 1 w2).mono ?_; rintro e w3 ⟨rfl, hb3⟩
      have H3 := Lib.hid (H2.out.under HI.out hb3)
      have b4 : Below w3.heap.size w3 (w3.alloc (.cells #[.int .i64 1, .int .i64 1] 24)) := (Below.refl _ _).alloc (Nat.le_refl _) _
      have H4 := Lib.hid (H3.out.under HI.out b4)
      have hcall := HI.out.reach [⟨1, 1⟩] (some ⟨w3.heap.size, 0, none⟩) 1 H4.out.at_ H4.out.bnd H4.out.srt (by decide) (pt_reads0 w3 ⟨1, 1⟩)
      rw [show reachL hitP G [⟨1, 1⟩] = RL from HK2.out] at hcall
      clear hb3 b4
      go_wp2_with fail
      refine hcall.mono ?_; rintro e w5 ⟨v5, rfl, ho5, hb5⟩
      obtain ⟨A5, c5, rfl, -⟩ := ho5.form
      have H5 := Lib.hid (H4.out.under HI.out hb5)
      clear hcall hb5 ho5
      have hcall := HI.out.cells H5.out.at_ H5.out.bnd H5.out.srt
      rw [HRC.out] at hcall
      go_wp2_with fail
      refine hcall.mono ?_; rintro e w6 ⟨v6, rfl, ho6, hb6⟩
      obtain ⟨A6, c6, rfl, -⟩ := ho6.form
      have H6 := Lib.hid (H5.out.under HI.out hb6)
      have hcall2 := HI.out.order RL A6 c6 H6.out.at_ H6.out.bnd H6.out.srt (by rw [HRLl.out]; omega) (ho6.reads kindP.row).2
      rw [HK3.out] at hcall2
      clear hcall hb6 ho6
      go_wp2_with fail
      refine hcall2.mono ?_; rintro e w7 ⟨v7, rfl, ho7, hb7⟩
      obtain ⟨A7, c7, rfl, -⟩ := ho7.form
      have H7 := Lib.hid (H6.out.under HI.out hb7)
      have t1 : Int.tmod (m : Int) (k : Int) = (j : Int) := by rw [Int.tmod_eq_emod_of_nonneg (by omega)]; exact R2.out
      have hkz2 : ¬ k = 0 := by omega
      have hkz3 : ((k : Int) == 0) = false := by simp; omega
      clear hcall2 hb7 ho7
      go_wp2_with fail
      refine (pCell (1 + (j : Int)) 1 w7).mono ?_; rintro e w8 ⟨rfl, hb8⟩
      have H8 := Lib.hid (H7.out.under HI.out hb8)
      clear hb8 t1
      have HS9 : Hid (Calls Tryd.prog 9 #[.pointer (some pa), .agg #[.int .i64 (1 + (j : Int)), .int .i64 1], .slice none 0 0] w8 (fun e w' => e = .returned (.int .i64 0) ∧ ∃ P, WSt K At w w' P (.pointer (some pa)) H)) := Lib.hid (by
        have h := HI.out.set (rc j) [] none 0 H8.out.at_ H8.out.bnd H8.out.srt (by decide) (Or.inl rfl) (fun h => absurd rfl h)
        rw [HCUT.out] at h
        refine h.mono ?_
        rintro e w' ⟨rfl, hb, P2, hat, hg⟩
        refine ⟨rfl, P2, ?_⟩
        have := H8.out.set (rc j) [] (by decide) hb (by rw [HCUT.out]; exact hat) hg
        rw [HCUT.out] at this
        exact this)
      go_wp2_with fail
      refine HS9.out.mono ?_; rintro e w9 ⟨rfl, P9, h9⟩
      have H9 := Lib.hid h9
      clear h9 HS9
      have hcall := HI.out.loops H9.out.at_ H9.out.bnd H9.out.srt
      rw [HK4.out] at hcall
      go_wp2_with fail
      refine hcall.mono ?_; rintro e w10 ⟨v10, rfl, ho10, hb10⟩
      obtain ⟨A10, c10, rfl, -⟩ := ho10.form
      have H10 := Lib.hid (H9.out.under HI.out hb10)
      clear hcall hb10 ho10
      have hcall := HI.out.cells H10.out.at_ H10.out.bnd H10.out.srt
      rw [← HCC.out] at hcall
      have hw1 : IntKind.i64.wrap ((k : Int) - 1) = (k : Int) - 1 := by rw [IntKind.wrap_i64]; omega
      have hcl : ((CC.length : Int) != (k : Int) - 1) = false := by rw [HCl.out]; simp; omega
      go_wp2_with fail
      refine hcall.mono ?_; rintro e w11 ⟨v11, rfl, ho11, hb11⟩
      obtain ⟨A11, c11, rfl, -⟩ := ho11.form
      have H11 := Lib.hid (H10.out.under HI.out hb11)
      clear hcall hb11 ho11
      go_wp2_with fail
      have hcall := HI.out.cells H11.out.at_ H11.out.bnd H11.out.srt
      rw [← HCC.out] at hcall
      refine hcall.mono ?_; rintro e w12 ⟨v12, rfl, ho12, hb12⟩
      obtain ⟨A12, c12, rfl, -⟩ := ho12.form
      have H12 := Lib.hid (H11.out.under HI.out hb12)
      have hcall2 := HI.out.order CC A12 c12 H12.out.at_ H12.out.bnd H12.out.srt (by rw [HCl.out]; omega) (ho12.reads kindP.row).2
      rw [HK6.out] at hcall2
      clear hcall hb12 ho12 hcl
      go_wp2_with fail
      refine hcall2.mono ?_; rintro e w13 ⟨v13, rfl, ho13, hb13⟩
      obtain ⟨A13, c13, rfl, -⟩ := ho13.form
      have H13 := Lib.hid (H12.out.under HI.out hb13)
      have HO13 := Lib.hid (ho13.reads kindP.row).2
      have hol : ((O.length : Int) != (k : Int) - 1) = false := by rw [HOl.out]; simp; omega
      have hoL : O.length < k := by rw [HOl.out]; omega
      clear hcall2 hb13 ho13
      go_wp2_with fail
      clear hol hw1
      go_loopw [10] (fun iv wr => ∃ i : Nat, i ≤ O.length ∧ iv = .int .i64 i ∧ Hid (Below w13.heap.size w13 wr)) (fun iv _ => O.length - (intOf iv).toNat)
      case atStart => exact ⟨0, Nat.zero_le _, rfl, Lib.hid (Below.refl _ _)⟩
      case round =>
        obtain ⟨i, hi0, rfl, HR2⟩ := hrel
        by_cases hi : i < O.length
        · have hd2 : (i : Int) < (O.length : Int) := by omega
          obtain ⟨y, hy⟩ := RowsC.at_some O i hi
          have hbz := HR2.out
          obtain ⟨g, o, rfl, hg, f0, f1⟩ := Reads.pt ((HO13.out.below hbz).mono hbz.size) i y hy
          have hye := HAT.out i y hy
          have hfl := far_lt (k := k) hjk (i := i) (by omega)
          have hfm := far_mod (k := k) (i := i) hjk (by omega)
          subst hye
          have eN := neqP (rc (farN k j i)) (rc (farN k j i))
          rw [decide_eq_true rfl] at eN
          replace eN : ∀ Z, (binOp .neq 24 (.agg #[.int .i64 (rc (farN k j i)).r, .int .i64 (rc (farN k j i)).c]) (.agg #[.int .i64 (1 + ((farN k j i : Nat) : Int)), .int .i64 1])).run Tryd.prog Z = .ok (.bool false) Z := eN
          have g1 : IntKind.i64.wrap ((j : Int) - 1) = (j : Int) - 1 := by rw [IntKind.wrap_i64]; omega
          have g2 : IntKind.i64.wrap ((j : Int) - 1 - (i : Int)) = (j : Int) - 1 - (i : Int) := by rw [IntKind.wrap_i64]; omega
          have g3 : IntKind.i64.wrap (2 * (k : Int)) = 2 * (k : Int) := by rw [IntKind.wrap_i64]; omega
          have g4 : IntKind.i64.wrap ((j : Int) - 1 - (i : Int) + 2 * (k : Int)) = ((j + 2 * k - 1 - i : Nat) : Int) := by rw [IntKind.wrap_i64]; omega
          have g5 : Int.tmod ((j + 2 * k - 1 - i : Nat) : Int) (k : Int) = ((farN k j i : Nat) : Int) := by
            rw [Int.tmod_eq_emod_of_nonneg (by omega), ← hfm]; exact (Int.natCast_emod _ k).symm
          have g6 : IntKind.i64.wrap (1 + ((farN k j i : Nat) : Int)) = 1 + ((farN k j i : Nat) : Int) := by rw [IntKind.wrap_i64]; omega
          have gg : g < wr.heap.size := World.block_lt_of_cell? wr ⟨g, o + i * 2, none⟩ f0
          have HS := Lib.hid (show wr.cell? ⟨g, o + i * 2, none⟩ = some (.int .i64 (rc (farN k j i)).r) ∧ wr.cell? ⟨g, o + i * 2 + 1, none⟩ = some (.int .i64 (rc (farN k j i)).c) from ⟨f0, f1⟩)
          have HK := Lib.hid (show ∀ Z : World, Below wr.heap.size wr Z → Z.cell? ⟨g, o + i * 2, none⟩ = some (.int .i64 (rc (farN k j i)).r) ∧ Z.cell? ⟨g, o + i * 2 + 1, none⟩ = some (.int .i64 (rc (farN k j i)).c) from fun Z h => ⟨(h.cell (p := ⟨g, _, none⟩) gg).trans f0, (h.cell (p := ⟨g, _, none⟩) gg).trans f1⟩)
          clear hfm hy hbz
          go_wp2_with fail
          clear f0 f1
          go_region_held3 (fun Z => Z.cell? ⟨g, o + i * 2, none⟩ = some (.int .i64 (rc (farN k j i)).r) ∧ Z.cell? ⟨g, o + i * 2 + 1, none⟩ = some (.int .i64 (rc (farN k j i)).c))
            (first | with_reducible exact HS.out | exact HK.out _ (below_d (Below.refl _ _)) | exact HK.out _ HA.out)
            (first | (go_at_call 18
                      refine (pCell (1 + ((farN k j i : Nat) : Int)) 1 _).mono ?_
                      rintro e wa ⟨rfl, hba⟩
                      have HA := Lib.hid (show Below wr.heap.size wr wa from by first | exact (below_d (Below.refl _ wr)).trans hba | exact hba)
                      clear hba))
          have HD := Lib.hid (HR2.out.trans (HA.out.mono HR2.out.size))
          go_wp2_with fail
          go_roundw
          case rel => exact ⟨i + 1, by omega, by go_num, HD⟩
          case measure => simp [intOf]; omega
        · have hd2 : ¬ (i : Int) < (O.length : Int) := by omega
          have HZ := Lib.hid (H13.out.under HI.out HR2.out)
          have hcall := cwakes HI.out wr (HI.out.toK HZ.out.at_)
          go_wp2_with fail
          refine hcall.mono ?_; rintro e w20 ⟨rfl, hb20⟩
          have HB20 := Lib.hid (HZ.out.below.trans (hb20.mono HZ.out.below.size))
          clear hcall hb20
          go_wp2_with fail
          go_ret
          exact ⟨rfl, HB20.out⟩
end Go.Proofs.YtakamedgdiffbaaDoor.GraphC
namespace Go.Proofs.YtakamedgdiffbaaDoor.GraphC
set_option linter.unusedVariables false
open Go.RowKit Go.Proofs.YtakamedgdiffbaaDoor.NumC Go.Proofs.YtakamedgdiffbaaDoor.RowsC
open Go.Proofs.YtakamedgdiffbaaDoor.RefsC (Rc RAt hitsL RBox bits_or bits_and colN col_bit col_lt col_wrap coverN)
open Go.Proofs.YtakamedgdiffbaaDoor.AddrC (cellB fineB FineP Cell)
open Go.Proofs.YtakamedgdiffbaaDoor.TreeC (Kept)
def MAt (w : World) (g : Nat) (m : Nat → Nat) : Prop := ∃ cs : Array Value, w.heap[g]? = some (.cells cs 74 (0, 0)) ∧ cs.size = 1001 ∧ ∀ i, i < 1001 → cs[i]? = some (.int .u64 ((m i : Nat) : Int)) ∧ m i < 2251799813685248
theorem MAt.lt {w : World} {g : Nat} {m : Nat → Nat} (h : MAt w g m) : g < w.heap.size := by
  obtain ⟨cs, h, -⟩ := h; exact (Array.getElem?_eq_some_iff.1 h).1
theorem MAt.kept {w w' : World} {g x : Nat} {m : Nat → Nat} (h : MAt w g m) (hk : Kept x w w') (hx : g ≠ x) : MAt w' g m := by
  have hl := h.lt
  obtain ⟨cs, h1, h2⟩ := h
  exact ⟨cs, (hk.block g hl hx).trans h1, h2⟩
theorem MAt.but {w w' : World} {g : Nat} {m : Nat → Nat} {P : Nat → Prop} (h : MAt w g m) (hk : But P w w') (hx : ¬ P g) : MAt w' g m := by
  have hl := h.lt
  obtain ⟨cs, h1, h2⟩ := h
  exact ⟨cs, (hk.block g hl hx).trans h1, h2⟩
theorem MAt.below {w w' : World} {g : Nat} {m : Nat → Nat} (h : MAt w g m) (hk : Below w.heap.size w w') : MAt w' g m := by
  have hl := h.lt
  obtain ⟨cs, h1, h2⟩ := h
  exact ⟨cs, (hk.block g hl).trans h1, h2⟩
theorem MAt.cell {w : World} {g : Nat} {m : Nat → Nat} (h : MAt w g m) (i : Nat) (hi : i < 1001) : w.cell? ⟨g, i, none⟩ = some (.int .u64 ((m i : Nat) : Int)) ∧ w.frozen? ⟨g, i, none⟩ = false ∧ m i < 2251799813685248 := by
  obtain ⟨cs, h1, h2, h3⟩ := h
  refine ⟨?_, ?_, (h3 i hi).2⟩
  · unfold World.cell?; simp [h1, (h3 i hi).1]
  · unfold World.frozen?; simp [h1]
theorem MAt.store {w : World} {g : Nat} {m : Nat → Nat} (h : MAt w g m) (i v : Nat) (hv : v < 2251799813685248) : MAt (w.setCell ⟨g, i, none⟩ (.int .u64 (v : Int))) g (fun j => if j = i then v else m j) := by
  obtain ⟨cs, h1, h2, h3⟩ := h
  refine ⟨_, heap_setCell_same w g i cs _ _ h1, by simpa using h2, fun j hj => ?_⟩
  rw [Array.getElem?_setIfInBounds]
  by_cases e : j = i
  · subst e
    rw [if_pos rfl, if_pos (by omega)]
    exact ⟨by simp, by simpa using hv⟩
  · rw [if_neg (fun e2 => e e2.symm)]
    have := h3 j hj
    simp only [e, if_false]
    exact this
theorem MAt.zero (w : World) : MAt (w.alloc (.cells Tryd.zeroCells74 74)) w.heap.size (fun _ => 0) := by
  have h1 : Tryd.zeroCells74 = Array.replicate 1001 (.int .u64 0) := by kernel_rfl
  refine ⟨_, heap_alloc_new _ _, by rw [h1]; simp, fun i hi => ?_⟩
  rw [h1, Array.getElem?_replicate, if_pos hi]
  exact ⟨rfl, Nat.zero_lt_succ _⟩
def putM (m : Nat → Nat) (a : Pt) : Nat → Nat := fun j => if j = a.r.toNat then m a.r.toNat ||| 2 ^ a.c.toNat else m j
def hasM (m : Nat → Nat) (a : Pt) : Bool := (m a.r.toNat).testBit a.c.toNat
theorem pow_lt {c : Nat} (h : c ≤ 50) : 2 ^ c < 2251799813685248 := Nat.lt_of_le_of_lt (Nat.pow_le_pow_right (by decide) h) (by decide)
theorem pow_wrap (c t : Nat) (ht : t = 2 ^ c) (hc : c ≤ 51) : IntKind.u64.wrap (2 ^ c) = (t : Int) := by
  have h3 : (2 : Int) ^ c = ((2 ^ c : Nat) : Int) := by push_cast; rfl
  have h4 : (2 : Nat) ^ c ≤ 2 ^ 51 := Nat.pow_le_pow_right (by decide) hc
  rw [h3, ← ht]
  rw [← ht] at h4
  rw [IntKind.wrap_u64]; omega
set_option maxHeartbeats 1000000 in
set_option maxRecDepth 100000 in
theorem cmput (g : Nat) (m : Nat → Nat) (a : Pt) (w : World) (hc : Cell a.r a.c) (hM : MAt w g m) :
    Calls Tryd.prog 35 #[.pointer (some ⟨g, 0, none⟩), .agg #[.int .i64 a.r, .int .i64 a.c]] w fun e w' => e = .returned (.tuple #[]) ∧ Kept g w w' ∧ MAt w' g (putM m a) := by
  obtain ⟨⟨r1, r2⟩, c1, c2⟩ := hc
  obtain ⟨r, hr⟩ : ∃ r : Nat, a.r = r := ⟨a.r.toNat, by omega⟩
  obtain ⟨c, hcn⟩ : ∃ c : Nat, a.c = c := ⟨a.c.toNat, by omega⟩
  have HE : Hid (putM m a = fun j => if j = r then m r ||| 2 ^ c else m j) := Lib.hid (by unfold putM; rw [hr, hcn]; rfl)
  have hg := hM.lt
  have n1 : g ≠ w.heap.size := by omega
  rw [hr] at r1 r2 ⊢
  rw [hcn] at c1 c2 ⊢
  have hp := pow_lt (c := c) (by omega)
  obtain ⟨t, ht⟩ : ∃ t : Nat, t = 2 ^ c := ⟨_, rfl⟩
  have h1 := pow_wrap c t ht (by omega)
  rw [← ht] at HE hp
  obtain ⟨q1, q2, q3⟩ := hM.cell r (by omega)
  have fo := bits_or (m r) t (by omega) (by omega)
  have hK := (Kept.refl g w).alloc (.cells #[.int .i64 (r : Int), .int .i64 (c : Int)] 24)
  have hM1 := hM.below ((Below.refl w.heap.size w).alloc (Nat.le_refl _) (.cells #[.int .i64 (r : Int), .int .i64 (c : Int)] 24))
  have hM2 : MAt (w.alloc (.cells #[.int .i64 (r : Int), .int .i64 (c : Int)] 24)).drew g m := hM1
  have HS := Lib.hid (hM2.store r (m r ||| t) (Nat.or_lt_two_pow (n := 51) q3 hp))
  have HK := Lib.hid ((hK.drew 1).setCell r (.int .u64 ((m r ||| t : Nat) : Int)))
  generalize m r ||| t = u at *
  have HT := Lib.hid ht
  clear ht hp
  obtain ⟨q1', q2', -⟩ := hM2.cell r (by omega)
  clear hM hM1 hM2 hK q1 q2
  go_enter Tryd.func35, Tryd.ntmps35
  go_wp2_with fail
  refine region_tail 12 (by kernel_rfl) (by kernel_rfl) ?_
  simp only [List.take_succ_cons, List.take_zero, List.drop_succ_cons, List.drop_zero]
  have d0 : (w.alloc (.cells #[.int .i64 (r : Int), .int .i64 (c : Int)] 24)).drew.cell? ⟨w.heap.size, 0, none⟩ = some (.int .i64 (r : Int)) := by simp [go_sem]
  have d1 : (w.alloc (.cells #[.int .i64 (r : Int), .int .i64 (c : Int)] 24)).drew.cell? ⟨w.heap.size, 1, none⟩ = some (.int .i64 (c : Int)) := by simp [go_sem]
  have e1 : (w.alloc (.cells #[.int .i64 (r : Int), .int .i64 (c : Int)] 24)).drew.cell? ⟨g, r, none⟩ = some (.int .u64 ((m r : Nat) : Int)) := q1'
  have e2 : (w.alloc (.cells #[.int .i64 (r : Int), .int .i64 (c : Int)] 24)).drew.frozen? ⟨g, r, none⟩ = false := q2'
  have HK2 : Hid (Kept g w ((w.alloc (.cells #[.int .i64 (r : Int), .int .i64 (c : Int)] 24)).drew.setCell ⟨g, r, none⟩ (.int .u64 (u : Int)))) := HK
  generalize (w.alloc (.cells #[.int .i64 (r : Int), .int .i64 (c : Int)] 24)).drew = V at *
  have hr9 : (r : Int) < 1001 := by omega
  have hr0 : (0 : Int) ≤ (r : Int) := by omega
  have hc0 : (0 : Int) ≤ (c : Int) := by omega
  iterate 12 still_step
  refine wpStill_nil ?_
  go_wp2_with fail
  rw [HE.out]
  exact bodyPost_end (results_none (by rfl) _ _ _) rfl ⟨rfl, HK2.out, HS.out⟩
theorem low64 (x : Nat) (X : Int) (hX : X = x) (hx : x < 18446744073709551616) : Op.intBits .and .u64 X 1 = pure (.int .u64 ((x % 2 : Nat) : Int)) := by
  rw [RefsC.bits_andI x 1 X 1 hX rfl hx (by decide), Nat.and_one_is_mod]
theorem bit_of (x c : Nat) (v : Bool) (h : x.testBit c = v) : x / 2 ^ c % 2 = if v then 1 else 0 := by
  rw [Nat.testBit_eq_decide_div_mod_eq] at h
  have : x / 2 ^ c % 2 < 2 := Nat.mod_lt _ (by decide)
  cases v
  · simp at h; simp; omega
  · simpa using h
set_option maxHeartbeats 1000000 in
set_option maxRecDepth 100000 in
theorem cmhas (g : Nat) (m : Nat → Nat) (a : Pt) (w : World) (hc : Cell a.r a.c) (hM : MAt w g m) :
    Calls Tryd.prog 26 #[.pointer (some ⟨g, 0, none⟩), .agg #[.int .i64 a.r, .int .i64 a.c]] w fun e w' => e = .returned (.bool (hasM m a)) ∧ Below w.heap.size w w' := by
  obtain ⟨⟨r1, r2⟩, c1, c2⟩ := hc
  obtain ⟨r, hr⟩ : ∃ r : Nat, a.r = r := ⟨a.r.toNat, by omega⟩
  obtain ⟨c, hcn⟩ : ∃ c : Nat, a.c = c := ⟨a.c.toNat, by omega⟩
  obtain ⟨v, hv⟩ : ∃ v, (m r).testBit c = v := ⟨_, rfl⟩
  have HE : Hid (hasM m a = v) := Lib.hid (by unfold hasM; rw [hr, hcn, ← hv]; rfl)
  have hg := hM.lt
  have n1 : g ≠ w.heap.size := by omega
  rw [hr] at r1 r2 ⊢
  rw [hcn] at c1 c2 ⊢
  obtain ⟨q1, q2, q3⟩ := hM.cell r (by omega)
  have f2 := low64 (m r / 2 ^ c) (((m r : Nat) : Int) / 2 ^ c) (by push_cast; rfl) (Nat.lt_of_le_of_lt (Nat.div_le_self _ _) (by omega))
  rw [bit_of _ _ _ hv] at f2
  have hb : Below w.heap.size w (w.alloc (.cells #[.int .i64 (r : Int), .int .i64 (c : Int)] 24)) := (Below.refl _ w).alloc (Nat.le_refl _) _
  have HB := Lib.hid hb
  have hr9 : (r : Int) < 1001 := by omega
  have hr0 : (0 : Int) ≤ (r : Int) := by omega
  have hc0 : (0 : Int) ≤ (c : Int) := by omega
  generalize m r = x at *
  clear hv hM hb q2
  cases v
  · simp only [Bool.false_eq_true, if_false] at f2
    go_enter Tryd.func26, Tryd.ntmps26
    go_wp2_with fail
    go_quiet (fail)
    go_wp2_with fail
    go_ret
    exact ⟨by rw [HE.out]; rfl, below_drewN' HB.out nq⟩
  · simp only [if_true] at f2
    go_enter Tryd.func26, Tryd.ntmps26
    go_wp2_with fail
    go_quiet (fail)
    go_wp2_with fail
    go_ret
    exact ⟨by rw [HE.out]; rfl, below_drewN' HB.out nq⟩
set_option maxHeartbeats 1000000 in
set_option maxRecDepth 100000 in
theorem ccolumns (a c : Int) (p q : Nat) (h1 : p ≤ q) (h2 : q ≤ 50) (w : World) :
    Calls Tryd.prog 57 #[.agg #[.int .i64 a, .int .i64 p, .int .i64 c, .int .i64 q]] w fun e w' => e = .returned (.int .u64 ((colN p q : Nat) : Int)) ∧ Below w.heap.size w w' := by
  have HE := Lib.hid (col_wrap h1 h2)
  have HB := Lib.hid (show Below w.heap.size w (w.alloc (.cells #[.int .i64 a, .int .i64 p, .int .i64 c, .int .i64 q] 44)) from (Below.refl _ w).alloc (Nat.le_refl _) _)
  go_enter Tryd.func57, Tryd.ntmps57
  go_wp2_with fail
  go_quiet (fail)
  go_wp2_with fail
  rw [HE.out]
  go_ret
  exact ⟨rfl, below_drewN' HB.out nq⟩
theorem fine_at {x : Rc} (h : fineB x.a x.b x.c x.d = true) : ∃ a b c d : Nat, x = ⟨a, b, c, d⟩ ∧ 1 ≤ a ∧ a ≤ c ∧ c ≤ 1000 ∧ 1 ≤ b ∧ b ≤ d ∧ d ≤ 50 := by
  have hf : FineP x.a x.b x.c x.d := of_decide_eq_true h
  obtain ⟨⟨⟨k1, k2⟩, k3, k4⟩, ⟨⟨k5, k6⟩, k7, k8⟩, k9, k10⟩ := hf
  obtain ⟨a, b, c, d⟩ := x
  simp only at *
  exact ⟨a.toNat, b.toNat, c.toNat, d.toNat, by rw [Int.toNat_of_nonneg (by omega), Int.toNat_of_nonneg (by omega), Int.toNat_of_nonneg (by omega), Int.toNat_of_nonneg (by omega)], by omega, by omega, by omega, by omega, by omega, by omega⟩
def covM (m : Nat → Nat) (x : Rc) : Nat → Nat := coverN m (colN x.b.toNat x.d.toNat) x.a.toNat (x.c.toNat + 1 - x.a.toNat)
set_option maxHeartbeats 1000000 in
set_option maxRecDepth 100000 in
theorem cmcover (g : Nat) (m : Nat → Nat) (x : Rc) (w : World) (hx : fineB x.a x.b x.c x.d = true) (hM : MAt w g m) :
    Calls Tryd.prog 80 #[.pointer (some ⟨g, 0, none⟩), .agg #[.int .i64 x.a, .int .i64 x.b, .int .i64 x.c, .int .i64 x.d]] w fun e w' => e = .returned (.tuple #[]) ∧ Kept g w w' ∧ MAt w' g (covM m x) := by
  obtain ⟨a, b, c, d, rfl, k1, k2, k3, k4, k5, k6⟩ := fine_at hx
  have HE : Hid (covM m ⟨a, b, c, d⟩ = coverN m (colN b d) a (c + 1 - a)) := Lib.hid rfl
  have hcl := col_lt (p := b) k6
  have hg := hM.lt
  have HK := Lib.hid ((Kept.refl g w).alloc (.cells #[.int .i64 a, .int .i64 b, .int .i64 c, .int .i64 d] 44))
  have HM := Lib.hid (hM.below ((Below.refl w.heap.size w).alloc (Nat.le_refl _) (.cells #[.int .i64 a, .int .i64 b, .int .i64 c, .int .i64 d] 44)))
  have hbx := RBox.new w ⟨a, b, c, d⟩
  clear hx hM
  go_enter Tryd.func80, Tryd.ntmps80
  go_wp2_with fail
  have hgV : w.heap.size < (w.alloc (.cells #[.int .i64 a, .int .i64 b, .int .i64 c, .int .i64 d] 44)).heap.size := by simp
  generalize (w.alloc (.cells #[.int .i64 a, .int .i64 b, .int .i64 c, .int .i64 d] 44)) = V at *
  generalize hbb : w.heap.size = bx at *
  refine (ccolumns a c b d k5 k6 V).mono ?_; rintro e V2 ⟨rfl, hb2⟩
  have HK2 := Lib.hid (HK.out.trans (Kept.of hb2))
  have HM2 := Lib.hid (HM.out.below hb2)
  have hbx2 := hbx.below hb2 hgV
  obtain ⟨d0, d1, d2, d3⟩ := hbx2.cells
  have HX := Lib.hid hbx2
  have hgx : g ≠ bx := by omega
  clear hbx hbx2 HK HM hgV hb2
  generalize colN b d = v at *
  go_wp2_with fail
  clear d0 d1 d2 d3
  go_loopw [5] (fun iv wr => ∃ i : Nat, a ≤ i ∧ i ≤ c + 1 ∧ iv = .int .i64 i ∧ Hid (Kept g w wr ∧ MAt wr g (coverN m v a (i - a)) ∧ RBox wr bx ⟨a, b, c, d⟩)) (fun iv _ => c + 1 - (intOf iv).toNat)
  case atStart =>
    refine ⟨a, Nat.le_refl _, by omega, rfl, Lib.hid ⟨HK2.out, ?_, HX.out⟩⟩
    rw [show coverN m v a (a - a) = m from by funext j; unfold coverN; rw [if_neg (by omega)]]
    exact HM2.out
  case round =>
    obtain ⟨i, hi1, hi2, rfl, HR⟩ := hrel
    obtain ⟨hk, hm, hx⟩ := HR.out
    clear HM2 HK2 HX
    obtain ⟨d0, d1, d2, d3⟩ := hx.cells
    simp only at d0 d1 d2 d3
    by_cases hlt : i ≤ c
    · have hd1 : (i : Int) ≤ (c : Int) := by omega
      obtain ⟨c1, c2, c3⟩ := hm.cell i (by omega)
      have hmi : coverN m v a (i - a) i = m i := by unfold coverN; rw [if_neg (by omega)]
      rw [hmi] at c1 c3
      have fo := bits_or (m i) v (by omega) (by omega)
      have HS := Lib.hid (hm.store i (m i ||| v) (Nat.or_lt_two_pow (n := 51) c3 hcl))
      have HKk := Lib.hid ((hk.drew 1).setCell i (.int .u64 ((m i ||| v : Nat) : Int)))
      have HXX := Lib.hid hx
      have hxl := hx.lt
      generalize hor : m i ||| v = u at *
      have ef : (fun j => if j = i then u else coverN m v a (i - a) j) = coverN m v a (i + 1 - a) := by
        funext j
        unfold coverN
        by_cases e : j = i
        · rw [if_pos e, if_pos (by omega), e]; exact hor.symm
        · rw [if_neg e]
          by_cases e2 : a ≤ j ∧ j < a + (i - a)
          · rw [if_pos e2, if_pos (by omega)]
          · rw [if_neg e2, if_neg (by omega)]
      rw [ef] at HS
      have hi9 : (i : Int) < 1001 := by omega
      have hi0 : (0 : Int) ≤ (i : Int) := by omega
      clear hk hm hx hmi ef hor
      go_wp2_with fail
      refine region_tail 9 (by kernel_rfl) (by kernel_rfl) ?_
      simp only [List.take_succ_cons, List.take_zero, List.drop_succ_cons, List.drop_zero]
      replace c1 : wr.drew.cell? ⟨g, i, none⟩ = some (.int .u64 ((m i : Nat) : Int)) := c1
      replace c2 : wr.drew.frozen? ⟨g, i, none⟩ = false := c2
      replace HS : Hid (MAt (wr.drew.setCell ⟨g, i, none⟩ (.int .u64 (u : Int))) g (coverN m v a (i + 1 - a))) := HS
      replace HKk : Hid (Kept g w (wr.drew.setCell ⟨g, i, none⟩ (.int .u64 (u : Int)))) := HKk
      have HX2 : Hid (RBox (wr.drew.setCell ⟨g, i, none⟩ (.int .u64 (u : Int))) bx ⟨a, b, c, d⟩) := Lib.hid (by
        have : Kept g wr (wr.drew.setCell ⟨g, i, none⟩ (.int .u64 (u : Int))) := ((Kept.refl g wr).drew 1).setCell i _
        exact (this.block bx hxl (fun e => hgx e.symm)).trans HXX.out)
      generalize wr.drew = V3 at *
      iterate 9 still_step
      refine wpStill_nil ?_
      go_wp2_with fail
      go_roundw
      case rel => exact ⟨i + 1, by omega, by omega, by go_num, Lib.hid ⟨HKk.out, HS.out, HX2.out⟩⟩
      case measure => simp [intOf]; omega
    · have hd1 : ¬ (i : Int) ≤ (c : Int) := by omega
      obtain rfl : i = c + 1 := by omega
      have HF := Lib.hid (show Kept g w wr ∧ MAt wr g (coverN m v a (c + 1 - a)) from ⟨hk, hm⟩)
      clear hk hm hx
      go_wp2_with fail
      rw [HE.out]
      exact bodyPost_end (results_none (by rfl) _ _ _) rfl ⟨rfl, HF.out.1, HF.out.2⟩
def meetM (m : Nat → Nat) (x : Rc) : Bool := (List.range (x.c.toNat + 1 - x.a.toNat)).any fun k => decide (m (x.a.toNat + k) &&& colN x.b.toNat x.d.toNat ≠ 0)
theorem slice_marks (g : Nat) (a c : Nat) (w : World) (hac : a ≤ c) (hc : c ≤ 1000) :
    (Instr.sliceAt 74 (.pointer (some ⟨g, 0, none⟩)) (some (.int .i64 (a : Int))) (some (.int .i64 ((c : Int) + 1))) none).run Tryd.prog w = .ok (.slice (some ⟨g, a, none⟩) (c + 1 - a) (1001 - a)) w := by
  have hl : Tryd.prog.arrayLen 74 = 1001 := by kernel_rfl
  have he : Tryd.prog.elem 74 = 59 := by kernel_rfl
  rw [run_sliceAt_array_lh (P := Tryd.prog) w 74 ⟨g, 0, none⟩ (by kernel_rfl) .i64 .i64 a ((c : Int) + 1) (by omega) (by omega) (by rw [hl]; omega), he, Tryd.sizeOf59]
  simp only [Result.andThen_ok, slicedAt, hl]
  rw [if_neg (by omega)]
  have e1 : ((c : Int) + 1).toNat - (a : Int).toNat = c + 1 - a := by omega
  rw [e1, Int.toNat_natCast]
  unfold Addr.add
  split
  · rename_i h
    rw [show a = 0 from by omega]
  · simp
set_option maxHeartbeats 1000000 in
set_option maxRecDepth 100000 in
theorem cmmeets (g : Nat) (m : Nat → Nat) (x : Rc) (w : World) (hx : fineB x.a x.b x.c x.d = true) (hM : MAt w g m) :
    Calls Tryd.prog 47 #[.pointer (some ⟨g, 0, none⟩), .agg #[.int .i64 x.a, .int .i64 x.b, .int .i64 x.c, .int .i64 x.d]] w fun e w' => e = .returned (.bool (meetM m x)) ∧ Below w.heap.size w w' := by
  obtain ⟨a, b, c, d, rfl, k1, k2, k3, k4, k5, k6⟩ := fine_at hx
  have HE : Hid (meetM m ⟨a, b, c, d⟩ = (List.range (c + 1 - a)).any fun k => decide (m (a + k) &&& colN b d ≠ 0)) := Lib.hid rfl
  have hcl := col_lt (p := b) k6
  have hg := hM.lt
  have HB := Lib.hid (show Below w.heap.size w (w.alloc (.cells #[.int .i64 a, .int .i64 b, .int .i64 c, .int .i64 d] 44)) from (Below.refl _ w).alloc (Nat.le_refl _) _)
  have HM := Lib.hid (hM.below ((Below.refl w.heap.size w).alloc (Nat.le_refl _) (.cells #[.int .i64 a, .int .i64 b, .int .i64 c, .int .i64 d] 44)))
  have hbx := RBox.new w ⟨a, b, c, d⟩
  clear hx hM
  go_enter Tryd.func47, Tryd.ntmps47
  go_wp2_with fail
  have hgV : w.heap.size < (w.alloc (.cells #[.int .i64 a, .int .i64 b, .int .i64 c, .int .i64 d] 44)).heap.size := by simp
  generalize (w.alloc (.cells #[.int .i64 a, .int .i64 b, .int .i64 c, .int .i64 d] 44)) = V at *
  generalize hbb : w.heap.size = bx at *
  refine (ccolumns a c b d k5 k6 V).mono ?_; rintro e V2 ⟨rfl, hb2⟩
  have HB2 := Lib.hid (HB.out.trans (hb2.mono (Nat.le_of_lt hgV)))
  have hm2 := HM.out.below hb2
  have hbx2 := hbx.below hb2 hgV
  obtain ⟨d0, d1, d2, d3⟩ := hbx2.cells
  have HM2 := Lib.hid hm2
  have hgx : g ≠ bx := by omega
  clear hbx hbx2 HB HM hgV hb2 hm2
  generalize colN b d = v at *
  simp only at d0 d1 d2 d3
  have hw : IntKind.i64.wrap ((c : Int) + 1) = (c : Int) + 1 := by rw [IntKind.wrap_i64]; omega
  go_wp2_with fail
  have hsl := fun W => slice_marks g a c W k2 k3
  go_quiet (fail)
  replace HM2 : Hid (MAt (V2.drewN nq) g m) := HM2
  replace HB2 : Hid (Below bx w (V2.drewN nq)) := Lib.hid (below_drewN' HB2.out nq)
  generalize (V2.drewN nq) = V3 at *
  clear d0 d1 d2 d3 hsl
  go_wp2_with fail
  go_loopw [21] (fun iv wr => ∃ i : Nat, i ≤ c + 1 - a ∧ iv = .int .i64 i ∧ wr = V3 ∧ Hid (((List.range i).any fun k => decide (m (a + k) &&& v ≠ 0)) = false)) (fun iv _ => c + 1 - a - (intOf iv).toNat)
  case atStart => exact ⟨0, Nat.zero_le _, rfl, rfl, Lib.hid rfl⟩
  case round =>
    obtain ⟨i, hi, rfl, rfl, HN⟩ := hrel
    by_cases hlt : i < c + 1 - a
    · have hd1 : (i : Int) < ((c + 1 - a : Nat) : Int) := by omega
      obtain ⟨c1, c2, c3⟩ := HM2.out.cell (a + i) (by omega)
      have fo := bits_and (m (a + i)) v (by omega) (by omega)
      have HN1 : Hid (((List.range (i + 1)).any fun k => decide (m (a + k) &&& v ≠ 0)) = decide (m (a + i) &&& v ≠ 0)) := Lib.hid (by rw [List.range_succ, List.any_append, HN.out]; simp)
      generalize hu0 : m (a + i) &&& v = u at *
      clear hu0
      by_cases hu : u = 0
      · subst hu
        go_wp2_with fail
        go_roundw
        case rel => exact ⟨i + 1, by omega, by go_num, trivial, Lib.hid (by rw [HN1.out]; rfl)⟩
        case measure => simp [intOf]; omega
      · have HN2 : Hid (((List.range (i + 1)).any fun k => decide (m (a + k) &&& v ≠ 0)) = true) := Lib.hid (by rw [HN1.out]; simpa using hu)
        have hu1 : ((u : Int) == 0) = false := by simp; omega
        have hu2 : ¬ (u : Int) = 0 := by omega
        clear hu HN1
        go_wp2_with fail
        go_ret
        refine ⟨?_, by rw [hbb]; exact HB2.out⟩
        have : ((List.range (c + 1 - a)).any fun k => decide (m (a + k) &&& v ≠ 0)) = true := by
          obtain ⟨k, hk, h⟩ := List.any_eq_true.1 HN2.out
          exact List.any_eq_true.2 ⟨k, List.mem_range.2 (by have := List.mem_range.1 hk; omega), h⟩
        rw [HE.out, this]; rfl
    · have hd1 : ¬ (i : Int) < ((c + 1 - a : Nat) : Int) := by omega
      obtain rfl : i = c + 1 - a := by omega
      go_wp2_with fail
      go_ret
      exact ⟨by rw [HE.out, HN.out]; rfl, HB2.out⟩
end Go.Proofs.YtakamedgdiffbaaDoor.GraphC
